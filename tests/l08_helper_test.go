package tests

import (
	"fmt"
	"slices"
	"testing"

	"loop.example/g00713/impl"
)

// fenceSets are all fences that may stand; strangeFences are none.
var (
	fenceSets     = []int{0, impl.FcTake, impl.FcSteal, impl.FcTake + impl.FcSteal}
	strangeFences = append([]int{-2, 4, 5}, farInts...)
)

// strangeRegs are registers into which nobody takes.
var strangeRegs = append([]int{-2, 2, 3, 5, 6}, farInts...)

// stealRows are all numbers of steals that may stand.
var stealRows = [][]int{nil, {1}, {2}, {1, 1}, {1, 2}, {2, 1}, {2, 2}}

func insAdd(r int, a int, b int) impl.Ins {
	return impl.Ins{Op: impl.InAdd, R: r, A: a, B: b}
}

func insSub(r int, a int, b int) impl.Ins {
	return impl.Ins{Op: impl.InSub, R: r, A: a, B: b}
}

func insLess(r int, a int, b int) impl.Ins {
	return impl.Ins{Op: impl.InLess, R: r, A: a, B: b}
}

func insSame(r int, a int, b int) impl.Ins {
	return impl.Ins{Op: impl.InSame, R: r, A: a, B: b}
}

func hasTakeFence(fences int) bool {
	return fences == impl.FcTake || fences == impl.FcTake+impl.FcSteal
}

func hasStealFence(fences int) bool {
	return fences == impl.FcSteal || fences == impl.FcTake+impl.FcSteal
}

// takeByHand has each number as it is counted by hand.
func takeByHand(r int, fences int) []impl.Ins {
	if hasTakeFence(fences) {
		return ins(
			insLoad(2, 1), insSet(3, 1), insSub(2, 2, 3), insStore(1, 2), // 0 .. 3
			insFence,                                        // 4
			insLoad(4, 0), insLess(5, 4, 2), insZero(5, 10), // 5 .. 7
			insLoadAt(r, 2, 2, 4), insJump(21), // 8, 9
			insSame(5, 4, 2), insZero(5, 19), // 10, 11
			insLoadAt(r, 2, 2, 4), insSet(3, 1), insAdd(3, 4, 3), insCas(5, 0, 4, 3), // 12 .. 15
			insStore(1, 3), insZero(5, 20), insJump(21), // 16 .. 18
			insStore(1, 4), // 19
			insSet(r, 0),   // 20
		)
	}
	return ins(
		insLoad(2, 1), insSet(3, 1), insSub(2, 2, 3), insStore(1, 2), // 0 .. 3
		insLoad(4, 0), insLess(5, 4, 2), insZero(5, 9), // 4 .. 6
		insLoadAt(r, 2, 2, 4), insJump(20), // 7, 8
		insSame(5, 4, 2), insZero(5, 18), // 9, 10
		insLoadAt(r, 2, 2, 4), insSet(3, 1), insAdd(3, 4, 3), insCas(5, 0, 4, 3), // 11 .. 14
		insStore(1, 3), insZero(5, 19), insJump(20), // 15 .. 17
		insStore(1, 4), // 18
		insSet(r, 0),   // 19
	)
}

func stealByHand(r int, fences int) []impl.Ins {
	if hasStealFence(fences) {
		return ins(
			insLoad(2, 0),                   // 0
			insFence,                        // 1
			insLoad(3, 1), insLess(5, 2, 3), // 2, 3
			insZero(5, 11), insLoadAt(r, 2, 2, 4), // 4, 5
			insSet(4, 1), insAdd(4, 2, 4), insCas(5, 0, 2, 4), // 6 .. 8
			insZero(5, 11), insJump(12), // 9, 10
			insSet(r, 0), // 11
		)
	}
	return ins(
		insLoad(2, 0),                   // 0
		insLoad(3, 1), insLess(5, 2, 3), // 1, 2
		insZero(5, 10), insLoadAt(r, 2, 2, 4), // 3, 4
		insSet(4, 1), insAdd(4, 2, 4), insCas(5, 0, 2, 4), // 5 .. 7
		insZero(5, 10), insJump(11), // 8, 9
		insSet(r, 0), // 10
	)
}

// twiceByHand are two steals, the second one's jumps counted by hand.
func twiceByHand(fences int) []impl.Ins {
	if hasStealFence(fences) {
		return append(stealByHand(0, fences),
			insLoad(2, 0),                   // 12
			insFence,                        // 13
			insLoad(3, 1), insLess(5, 2, 3), // 14, 15
			insZero(5, 23), insLoadAt(1, 2, 2, 4), // 16, 17
			insSet(4, 1), insAdd(4, 2, 4), insCas(5, 0, 2, 4), // 18 .. 20
			insZero(5, 23), insJump(24), // 21, 22
			insSet(1, 0), // 23
		)
	}
	return append(stealByHand(0, fences),
		insLoad(2, 0),                   // 11
		insLoad(3, 1), insLess(5, 2, 3), // 12, 13
		insZero(5, 21), insLoadAt(1, 2, 2, 4), // 14, 15
		insSet(4, 1), insAdd(4, 2, 4), insCas(5, 0, 2, 4), // 16 .. 18
		insZero(5, 21), insJump(22), // 19, 20
		insSet(1, 0), // 21
	)
}

// initByHand has so many items.
func initByHand(items int) []int {
	switch items {
	case 1:
		return []int{0, 1, 11, 0, 0, 0}
	case 2:
		return []int{0, 2, 11, 12, 0, 0}
	case 3:
		return []int{0, 3, 11, 12, 13, 0}
	default:
		return []int{0, 4, 11, 12, 13, 14}
	}
}

// dequeByHand is the program that DequeProg is to make.
func dequeByHand(items int, steals []int, fences int) impl.Prog {
	p := progOf(initByHand(items), row(takeByHand(0, fences)...))
	for _, often := range steals {
		if often == 1 {
			p.T = append(p.T, row(stealByHand(0, fences)...))
		} else {
			p.T = append(p.T, row(twiceByHand(fences)...))
		}
	}
	return p
}

// dequeCase is what DequeProg is asked for.
type dequeCase struct {
	items  int
	steals []int
	fences int
}

// dequeCases are all that DequeProg makes a program of.
func dequeCases() []dequeCase {
	var out []dequeCase
	for items := 1; items <= 4; items++ {
		for _, steals := range stealRows {
			for _, fences := range fenceSets {
				out = append(out, dequeCase{items, steals, fences})
			}
		}
	}
	return out
}

// refusedCases are some of which it makes none.
func refusedCases() []dequeCase {
	var out []dequeCase
	for _, n := range append([]int{-2, 0, 5, 6}, farInts...) {
		out = append(out, dequeCase{n, nil, 0}, dequeCase{n, []int{2, 1}, impl.FcTake})
	}
	for _, n := range append([]int{-2, 0, 3, 4}, farInts...) {
		for _, steals := range [][]int{{n}, {n, 1}, {1, n}, {n, 2}, {2, n}, {n, n}} {
			out = append(out, dequeCase{1, steals, 0}, dequeCase{4, steals, impl.FcSteal})
		}
	}
	for _, steals := range [][]int{{1, 1, 1}, {2, 2, 2}, {1, 2, 1}, {1, 1, 1, 1}, {1, 1, 0}, slices.Repeat([]int{1}, 100)} {
		out = append(out, dequeCase{1, steals, 0}, dequeCase{4, steals, impl.FcTake})
	}
	for _, n := range strangeFences {
		out = append(out, dequeCase{1, nil, n}, dequeCase{2, []int{1, 2}, n}, dequeCase{4, []int{2}, n})
	}
	return append(out, dequeCase{0, []int{0}, 4}, dequeCase{5, []int{1, 1, 1}, -1})
}

func dequeProg(t *testing.T, c dequeCase) impl.Prog {
	t.Helper()
	p, ok := impl.DequeProg(c.items, c.steals, c.fences)
	if !ok {
		t.Fatalf("no program of %+v", c)
	}
	return p
}

// outcomesWalked goes through all states that are got at, however many there are.
func outcomesWalked(t *testing.T, p impl.Prog, kind int) []impl.Outcome {
	t.Helper()
	seen, ended := map[string]bool{}, map[string]bool{}
	var out []impl.Outcome
	for left := []impl.State{started(t, p, kind)}; len(left) > 0; {
		s := left[len(left)-1]
		left = left[:len(left)-1]
		key := likeness(s)
		if seen[key] {
			continue
		}
		seen[key] = true
		for pick := range impl.Moves(p, s) {
			next, _ := impl.Run(p, s, []int{pick})
			left = append(left, next)
		}
		if key := fmt.Sprint(s.F); impl.Done(p, s) && !ended[key] {
			ended[key] = true
			out = append(out, outcome(registersOf(s)...))
		}
	}
	return out
}
