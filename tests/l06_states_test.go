package tests

import (
	"fmt"
	"slices"
	"testing"

	"loop.example/g00713/impl"
)

func TestAllConstants(t *testing.T) {
	if impl.MaxStates != maxStates {
		t.Error(impl.MaxStates)
	}
}

// crossed is two threads that each store their own cell, then load the other's.
func crossed(between ...impl.Ins) impl.Prog {
	p := progOf([]int{0, 0})
	for k := range 2 {
		l := append([]impl.Ins{insSet(1, 1), insStore(k, 1)}, between...)
		p.T = append(p.T, row(append(l, insLoad(0, 1-k))...))
	}
	return p
}

func TestStatesWrittenOut(t *testing.T) {
	loads := progOf([]int{3}, row(insLoad(0, 0), insLoad(1, 0)))
	stores := progOf([]int{3}, row(insStore(0, 0), insStore(0, 0)))
	others := progOf([]int{0, 0}, row(insStore(0, 0)), row(insStore(1, 0)))
	for _, x := range []struct {
		p    impl.Prog
		want [3]int
	}{
		{progOf([]int{3}, row()), [3]int{1, 1, 1}},
		{progOf([]int{3}, row(), row(), row()), [3]int{1, 1, 1}},
		{loads, [3]int{3, 3, 3}},
		// By buffers as many writes wait as have been done, with 3 in the cell, or
		// fewer, with 0 in it.
		{stores, [3]int{3, 6, 3}},
		// The cells stay as they are; who has stored, and what waits, does not.
		{others, [3]int{4, 9, 4}},
		{threeLoads(), [3]int{8, 8, 8}},
		// What is not about memory is done in one order.
		{progOf([]int{0}, row(insSet(0, 1), insSet(1, 2)), row(insSet(2, 3))), [3]int{4, 4, 4}},
	} {
		for _, kind := range kinds {
			wantStates(t, x.p, kind, x.want[kind])
		}
	}
}

// A state is got at if there are moves that lead to it, and is one with all that
// are alike.
func TestStatesAgainstTheRule(t *testing.T) {
	for _, p := range searchedProgs() {
		for _, kind := range kinds {
			wantStates(t, p, kind, countBy(everyState(t, p, kind), func(s impl.State) string { return likeness(s) }))
		}
	}
}

// differing has, for each part of a state, a program that comes to two states
// that are not alike in that part alone.
func differing() []struct {
	part string
	kind int
	p    impl.Prog
} {
	one := row(insSet(1, 1), insStore(0, 1))
	same := row(insStore(0, 1))
	return []struct {
		part string
		kind int
		p    impl.Prog
	}{
		{"Pc", impl.KdOne, progOf([]int{0}, row(insFence))},
		{"Pc", impl.KdBuf, progOf([]int{0}, row(insFence))},
		{"Pc", impl.KdView, progOf([]int{0}, row(insFence))},
		{"registers", impl.KdOne, progOf([]int{0}, one, row(insLoad(2, 0)))},
		{"registers", impl.KdBuf, progOf([]int{0}, row(insLoad(5, 0)), one)},
		{"registers", impl.KdView, progOf([]int{0}, one, row(insLoad(0, 0), insLoad(2, 0)))},
		{"cells", impl.KdOne, progOf([]int{0}, one, row(insSet(1, 2), insStore(0, 1)))},
		{"cells", impl.KdBuf, progOf([]int{5, 0}, row(insSet(1, 1), insStore(1, 1)), row(insSet(1, 2), insStore(1, 1)))},
		// Whether it waits, what waits, and where it is to go.
		{"buffers", impl.KdBuf, progOf([]int{0}, same)},
		{"buffers", impl.KdBuf, progOf([]int{0, 0}, one, row(insLoad(1, 0), insStore(1, 1), insSet(1, 0)))},
		{"buffers", impl.KdBuf, progOf([]int{0, 0, 0}, one, row(insLoad(1, 0), insStoreAt(1, 1, 2, 2), insSet(1, 0)))},
		// Where the view of the one post is known is made the same by a second load.
		{"Vals", impl.KdView, progOf([]int{0, 0}, one, row(insLoad(1, 0), insLoad(2, 0), insStore(1, 1), insSet(1, 0)))},
		{"Glues", impl.KdView, progOf([]int{0, 0}, one, row(insLoad(1, 0), insLoad(2, 0), insZero(1, 5), insCas(3, 1, 4, 5), insJump(6), insStore(1, 5), insSet(1, 0), insSet(3, 0)))},
		{"views of posts", impl.KdView, progOf([]int{0, 0}, same, row(insLoad(1, 0), insStore(1, 1), insLoad(1, 0)))},
		{"views of threads", impl.KdView, progOf([]int{0}, same, row(insLoad(1, 0)))},
		{"views of threads", impl.KdView, progOf([]int{0}, row(insLoad(1, 0)), row(), same)},
		{"Sc", impl.KdView, progOf([]int{0}, same, row(insLoad(1, 0), insFence, insLoad(1, 0)))},
	}
}

// To leave out one part of what is held against each other makes alike what is
// not.
func TestStatesThatDifferInOnePart(t *testing.T) {
	parts := map[string]bool{}
	for _, x := range differing() {
		states := everyState(t, x.p, x.kind)
		all := countBy(states, func(s impl.State) string { return likeness(s) })
		if less := countBy(states, func(s impl.State) string { return likeness(s, x.part) }); less >= all {
			t.Fatalf("kind %d: no two states of %+v differ in %s alone", x.kind, x.p, x.part)
		}
		wantStates(t, x.p, x.kind, all)
		parts[x.part] = true
	}
	if len(parts) != len(partsOf(impl.State{})) {
		t.Errorf("only %v", parts)
	}
}

// States of KdView are alike though their Ids are not the same.
func TestStatesOfOtherIds(t *testing.T) {
	for _, x := range []struct {
		p     impl.Prog
		alike int
		all   int
	}{
		// The posts have the Ids 2 and 3, or the other way round.
		{progOf([]int{0, 0}, row(insStore(0, 1)), row(insStore(1, 1))), 4, 5},
		{progOf([]int{7, 8, 9}, row(insStore(0, 1)), row(insStore(1, 1)), row(insStore(2, 1))), 8, 16},
		// Of one cell, one of two posts stands first, and either may be the older
		// one.
		{progOf([]int{0}, row(insStore(0, 1)), row(insStore(0, 1))), 5, 7},
	} {
		states := everyState(t, x.p, impl.KdView)
		if len(states) != x.all || countBy(states, func(s impl.State) string { return likeness(s) }) != x.alike {
			t.Fatalf("%+v has %d states", x.p, len(states))
		}
		wantStates(t, x.p, impl.KdView, x.alike)
		allowsSearch(t, x.p, impl.KdView, x.alike, x.alike)
		refusesSearch(t, x.p, impl.KdView, x.alike-1)
	}
}

func TestStatesAtMost(t *testing.T) {
	for _, p := range append(walkedProgs(), crossed(), crossed(insFence)) {
		for _, kind := range kinds {
			n, ok := impl.States(p, kind, maxStates)
			if !ok || n < 1 {
				t.Fatalf("kind %d: %+v has %d states, %v", kind, p, n, ok)
			}
			for _, most := range []int{n, n + 1, maxStates} {
				allowsSearch(t, p, kind, most, n)
			}
			for _, most := range []int{1, 2, n - 2, n - 1} {
				if most < n {
					refusesSearch(t, p, kind, most)
				}
			}
			for _, most := range append([]int{0, maxStates + 1, 2 * maxStates}, farInts...) {
				refusesSearch(t, p, kind, most)
			}
		}
	}
}

// Programs of just MaxStates states, and of one more: that ahead of its InSet.
func TestStatesAtTheLimit(t *testing.T) {
	just := progOf([]int{0}, fences(19), fences(19), fences(14))
	over := progOf([]int{0}, row(slices.Concat([]impl.Ins{insSet(0, 1)}, fences(19).L)...), fences(19), fences(14))
	far := progOf([]int{0}, fences(impl.MaxIns), fences(impl.MaxIns), fences(impl.MaxIns))
	for _, kind := range kinds {
		allowsSearch(t, just, kind, maxStates, maxStates)
		for _, most := range []int{1, 100, maxStates - 1, maxStates + 1} {
			refusesSearch(t, just, kind, most)
		}
		for _, most := range []int{1, 100, maxStates - 1, maxStates, maxStates + 1, maxStates + 2} {
			refusesSearch(t, over, kind, most)
			refusesSearch(t, far, kind, most)
		}
	}
}

func TestStatesNoInstructions(t *testing.T) {
	for n := 1; n <= impl.MaxThreads; n++ {
		p := impl.Prog{Init: []int{5, -6}, T: make([]impl.Thread, n)}
		for _, kind := range kinds {
			for _, most := range []int{1, 2, maxStates} {
				allowsSearch(t, p, kind, most, 1)
				wantOutcomes(t, p, kind, most, impl.Outcome{R: make([]int, n*impl.Regs)})
			}
			refusesSearch(t, p, kind, 0)
			wantWitness(t, p, kind, nil)
			wantWitness(t, p, kind, []impl.Cond{cond(0, 0, 0), cond(n-1, impl.Regs-1, 0)})
			wantNoWitness(t, p, kind, []impl.Cond{cond(n, 0, 0)})
			wantNoWitness(t, p, kind, []impl.Cond{cond(0, 0, 1)})
		}
	}
}

func TestSearchRefused(t *testing.T) {
	for _, p := range badProgs() {
		for _, kind := range slices.Concat(kinds, strangeKinds) {
			for _, most := range []int{0, 1, 100, maxStates, maxStates + 1} {
				refusesSearch(t, p, kind, most)
			}
		}
	}
	for _, p := range append(goodProgs(), crossed()) {
		for _, kind := range strangeKinds {
			for _, most := range []int{0, 1, 100, maxStates, maxStates + 1} {
				refusesSearch(t, p, kind, most)
			}
		}
	}
}

// All that one asks of a program is the same when it is asked again, whoever
// looked for what.
func TestSearchAgain(t *testing.T) {
	for _, p := range append(walkedProgs(), crossed()) {
		for _, kind := range kinds {
			first := fmt.Sprint(searchAnswers(p, kind))
			for range 3 {
				if again := fmt.Sprint(searchAnswers(p, kind)); again != first {
					t.Fatalf("kind %d: %+v answers %s and then %s", kind, p, first, again)
				}
			}
		}
	}
}
