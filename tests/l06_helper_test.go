package tests

import (
	"fmt"
	"math/rand"
	"slices"
	"testing"

	"loop.example/g00713/impl"
)

// maxStates is the most that the document lets a search get at.
const maxStates = 6000

// cond is a condition on a thread's register.
func cond(t int, r int, val int) impl.Cond {
	return impl.Cond{T: t, R: r, Val: val}
}

func outcome(numbers ...int) impl.Outcome {
	return impl.Outcome{R: numbers}
}

func placesIn(s impl.State, view []int) []int {
	var out []int
	for x, id := range view {
		out = append(out, firstPlace(s.H[x], id))
	}
	return out
}

// partsOf has all that two states which are alike have the same.
func partsOf(s impl.State) map[string]any {
	vals, glues, posts, threads := [][]int{}, [][]bool{}, [][][]int{}, [][]int{}
	for x, h := range s.H {
		vals, glues, posts = append(vals, nil), append(glues, nil), append(posts, nil)
		for _, post := range h.L {
			vals[x], glues[x] = append(vals[x], post.Val), append(glues[x], post.Glue)
			posts[x] = append(posts[x], placesIn(s, post.View))
		}
	}
	for _, view := range s.View {
		threads = append(threads, placesIn(s, view.R))
	}
	return map[string]any{
		"Pc": s.Pc, "registers": s.F, "cells": s.Mem, "buffers": s.Bufs,
		"Vals": vals, "Glues": glues, "views of posts": posts, "views of threads": threads, "Sc": placesIn(s, s.Sc),
	}
}

// likeness is the same for two states that are alike in all but what is left
// out.
func likeness(s impl.State, leftOut ...string) string {
	parts := partsOf(s)
	for _, name := range leftOut {
		delete(parts, name)
	}
	return fmt.Sprint(parts)
}

func countBy(states []impl.State, key func(s impl.State) string) int {
	seen := map[string]bool{}
	for _, s := range states {
		seen[key(s)] = true
	}
	return len(seen)
}

// visit goes through all states that are got at from s, Ids and all.
func visit(t *testing.T, p impl.Prog, s impl.State, seen map[string]bool) []impl.State {
	t.Helper()
	key := fmt.Sprint(s)
	if seen[key] {
		return nil
	}
	seen[key] = true
	out := []impl.State{s}
	for _, m := range impl.Moves(p, s) {
		next, ok := impl.Do(p, s, m)
		if !ok {
			t.Fatalf("%v of %+v is not done", m, s)
		}
		out = append(out, visit(t, p, next, seen)...)
	}
	return out
}

func everyState(t *testing.T, p impl.Prog, kind int) []impl.State {
	t.Helper()
	return visit(t, p, started(t, p, kind), map[string]bool{})
}

func registersOf(s impl.State) []int {
	var out []int
	for _, f := range s.F {
		out = append(out, f.R...)
	}
	return out
}

// outcomeLess holds two outcomes of one program against each other.
func outcomeLess(a impl.Outcome, b impl.Outcome) bool {
	for k := range a.R {
		if a.R[k] != b.R[k] {
			return a.R[k] < b.R[k]
		}
	}
	return false
}

func outcomesAmong(p impl.Prog, states []impl.State) []impl.Outcome {
	seen := map[string]bool{}
	var out []impl.Outcome
	for _, s := range states {
		if key := fmt.Sprint(s.F); impl.Done(p, s) && !seen[key] {
			seen[key] = true
			at := 0
			for o := outcome(registersOf(s)...); at < len(out) && outcomeLess(out[at], o); {
				at++
			}
			out = slices.Insert(out, at, outcome(registersOf(s)...))
		}
	}
	return out
}

// metBy tells whether a state that is Done is as was asked for.
func metBy(s impl.State, c []impl.Cond) bool {
	for _, x := range c {
		if x.T < 0 || x.T >= len(s.F) || x.R < 0 || x.R >= impl.Regs || s.F[x.T].R[x.R] != x.Val {
			return false
		}
	}
	return true
}

// rowOfPicks tries all rows of n picks, the least first.
func rowOfPicks(p impl.Prog, s impl.State, n int, c []impl.Cond, failed map[string]bool) ([]int, bool) {
	if n == 0 {
		return nil, impl.Done(p, s) && metBy(s, c)
	}
	key := fmt.Sprint(n, s)
	if failed[key] {
		return nil, false
	}
	for pick := range impl.Moves(p, s) {
		next, _ := impl.Run(p, s, []int{pick})
		if rest, ok := rowOfPicks(p, next, n-1, c, failed); ok {
			return append([]int{pick}, rest...), true
		}
	}
	failed[key] = true
	return nil, false
}

// leastRow is the row of picks that Witness is to answer.
func leastRow(t *testing.T, p impl.Prog, kind int, c []impl.Cond) ([]int, bool) {
	t.Helper()
	s := started(t, p, kind)
	for n := range leftOf(p, s) + 1 {
		if picks, ok := rowOfPicks(p, s, n, c, map[string]bool{}); ok {
			return picks, true
		}
	}
	return nil, false
}

// smallIns is about two registers alone, and most often about memory.
func smallIns(r *rand.Rand, at int, cells int, n int) impl.Ins {
	i := randomIns(r, at, cells, n)
	for impl.Touches(i, 0) == 0 && impl.Touches(i, 1) == 0 && r.Intn(6) > 0 {
		i = randomIns(r, at, cells, n)
	}
	i.R, i.A, i.B = i.R%2, i.A%2, i.B%2
	return i
}

// smallProg is a program of few instructions, which begin with a number to
// store.
func smallProg(r *rand.Rand) impl.Prog {
	p := impl.Prog{}
	for range 1 + r.Intn(2) {
		p.Init = append(p.Init, r.Intn(2))
	}
	threads := []int{1, 2, 2, 3}[r.Intn(4)]
	for k := range threads {
		n := 2 + r.Intn(6-threads)
		l := []impl.Ins{insSet(r.Intn(2), 1-2*k)}
		for at := 1; at < n; at++ {
			l = append(l, smallIns(r, at, len(p.Init), n))
		}
		p.T = append(p.T, row(l...))
	}
	return p
}

func smallProgs(n int) []impl.Prog {
	r := rand.New(rand.NewSource(6))
	var out []impl.Prog
	for range n {
		out = append(out, smallProg(r))
	}
	return out
}

// searchedProgs are programs of which all states, Ids and all, can be gone
// through.
func searchedProgs() []impl.Prog {
	return append(walkedProgs(), smallProgs(100)...)
}

func wantOutcomes(t *testing.T, p impl.Prog, kind int, most int, want ...impl.Outcome) {
	t.Helper()
	if got, ok := impl.Outcomes(p, kind, most); !ok || !sameValue(got, want) {
		t.Errorf("kind %d, %d states at most: the outcomes of %+v are %v, %v, want %v", kind, most, p, got, ok, want)
	}
}

func wantStates(t *testing.T, p impl.Prog, kind int, want int) {
	t.Helper()
	if got, ok := impl.States(p, kind, maxStates); !ok || got != want {
		t.Errorf("kind %d: %+v has %d states, %v, want %d", kind, p, got, ok, want)
	}
}

func wantWitness(t *testing.T, p impl.Prog, kind int, c []impl.Cond, want ...int) {
	t.Helper()
	if got, ok := impl.Witness(p, kind, maxStates, c); !ok || !sameValue(got, want) {
		t.Errorf("kind %d: the picks that lead %+v to %v are %v, %v, want %v", kind, p, c, got, ok, want)
	}
}

func wantNoWitness(t *testing.T, p impl.Prog, kind int, c []impl.Cond) {
	t.Helper()
	if got, ok := impl.Witness(p, kind, maxStates, c); ok || len(got) != 0 || impl.May(p, kind, maxStates, c) {
		t.Errorf("kind %d: the picks that lead %+v to %v are %v, %v", kind, p, c, got, ok)
	}
}

// refusesSearch holds each function against what it answers where there is
// nothing to tell.
func refusesSearch(t *testing.T, p impl.Prog, kind int, most int) {
	t.Helper()
	if l, ok := impl.Outcomes(p, kind, most); ok || len(l) != 0 {
		t.Errorf("kind %d, %d states at most: the outcomes of %+v are %v, %v", kind, most, p, l, ok)
	}
	if n, ok := impl.States(p, kind, most); ok || n != 0 {
		t.Errorf("kind %d, %d states at most: %+v has %d, %v", kind, most, p, n, ok)
	}
	if impl.May(p, kind, most, nil) {
		t.Errorf("kind %d, %d states at most: %+v may come out", kind, most, p)
	}
	if picks, ok := impl.Witness(p, kind, most, nil); ok || len(picks) != 0 {
		t.Errorf("kind %d, %d states at most: %v leads %+v to an end, %v", kind, most, picks, p, ok)
	}
}

// allowsSearch is for programs of so many states.
func allowsSearch(t *testing.T, p impl.Prog, kind int, most int, states int) {
	t.Helper()
	if n, ok := impl.States(p, kind, most); !ok || n != states {
		t.Errorf("kind %d, %d states at most: %+v has %d, %v, want %d", kind, most, p, n, ok, states)
	}
	if l, ok := impl.Outcomes(p, kind, most); !ok || len(l) == 0 {
		t.Errorf("kind %d, %d states at most: the outcomes of %+v are %v, %v", kind, most, p, l, ok)
	}
	if !impl.May(p, kind, most, nil) {
		t.Errorf("kind %d, %d states at most: %+v may not come out", kind, most, p)
	}
	if _, ok := impl.Witness(p, kind, most, nil); !ok {
		t.Errorf("kind %d, %d states at most: nothing leads %+v to an end", kind, most, p)
	}
}
