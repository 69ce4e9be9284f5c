package tests

import (
	"slices"
	"testing"

	"loop.example/g00713/impl"
)

func TestRobustWrittenOut(t *testing.T) {
	one, store, other := insSet(1, 1), insStore(0, 1), insLoad(2, 1)
	for _, x := range []struct {
		p    impl.Prog
		want bool
	}{
		{progOf([]int{0}, row()), true},
		{progOf([]int{0}, row(), row(), row()), true},
		{threeLoads(), true},
		{crossed(), false},
		{crossed(insFence), true},
		{crossed(insCas(3, 0, 4, 4)), true},
		// One of the two fences is not enough.
		{crossedWith(ins(insFence), nil), false},
		{crossedWith(nil, ins(insFence)), false},
		// What a thread alone has stored it reads itself.
		{progOf([]int{0, 0}, row(one, store, insLoad(2, 0), other)), true},
		// Stores are seen in order, and loads are done in order.
		{progOf([]int{0, 0}, row(one, store, insStore(1, 1)), row(insLoad(2, 1), insLoad(3, 0))), true},
		{progOf([]int{0, 0}, row(insLoad(2, 0), one, insStore(1, 1)), row(insLoad(2, 1), one, store)), true},
		// One reads one's own store ahead of the other's.
		{progOf([]int{0, 0}, row(one, store, insLoad(3, 0), other), row(one, insStore(1, 1), insLoad(3, 1), insLoad(2, 0))), false},
		{progOf([]int{0, 0}, row(one, store, insLoad(3, 0), other), row(insSet(1, 2), insStore(1, 1), store, insSet(1, 0))), true},
		{progOf([]int{0}, row(one, store, insLoad(2, 0)), row(insSet(1, 2), store, insLoad(2, 0))), true},
		// What nobody keeps does not tell.
		{progOf([]int{0, 0}, row(one, store, other, insSet(2, 0)), row(one, insStore(1, 1), insLoad(2, 0))), true},
	} {
		if _, ok := impl.Robust(x.p, maxStates); !ok {
			t.Fatalf("too many states of %+v", x.p)
		}
		want, _ := robustByRule(x.p, maxStates)
		if want != x.want {
			t.Fatalf("%+v comes out in the same ways: %v", x.p, want)
		}
		wantRobust(t, x.want, x.p, maxStates)
	}
}

// All that may come of each kind is held against each other.
func TestRobustAgainstTheRule(t *testing.T) {
	yes, no := 0, 0
	for _, p := range fencedProgs() {
		if !impl.ProgOk(p) {
			continue
		}
		one := outcomesAmong(p, everyState(t, p, impl.KdOne))
		buf := outcomesAmong(p, everyState(t, p, impl.KdBuf))
		want := sameValue(one, buf)
		wantRobust(t, want, p, maxStates)
		wantRobust(t, want, p, statesWanted(t, p))
		if want {
			yes++
		} else {
			no++
		}
	}
	if yes < 60 || no < 60 {
		t.Errorf("%d programs are robust, %d are not", yes, no)
	}
}

func TestRobustAtMost(t *testing.T) {
	for _, p := range slices.Concat(walkedProgs(), []impl.Prog{crossed(), crossed(insFence)}, storingProgs(20)) {
		n := statesWanted(t, p)
		want, _ := robustByRule(p, maxStates)
		for _, most := range []int{n, n + 1, maxStates} {
			wantRobust(t, want, p, most)
		}
		for _, most := range []int{1, 2, n - 1} {
			if most < n {
				refusesRobust(t, p, most)
			}
		}
		for _, most := range append([]int{0, maxStates + 1}, farInts...) {
			refusesRobust(t, p, most)
		}
	}
	// What one kind alone would tell counts for nothing.
	one, _ := impl.States(crossed(), impl.KdOne, maxStates)
	refusesRobust(t, crossed(), one)
}

func TestRobustNoInstructions(t *testing.T) {
	for n := 1; n <= impl.MaxThreads; n++ {
		p := progOf([]int{3}, make([]impl.Thread, n)...)
		for _, most := range []int{1, 2, maxStates} {
			wantRobust(t, true, p, most)
			wantLeast(t, p, most)
		}
		for _, most := range append([]int{0, maxStates + 1}, farInts...) {
			refusesRobust(t, p, most)
			refusesLeast(t, p, most)
		}
	}
}

// manyStates are programs without spots of just so many states, by both kinds.
func manyStates() (just impl.Prog, over impl.Prog) {
	just = progOf([]int{0}, fences(19), fences(19), fences(14))
	over = progOf([]int{0}, row(append(ins(insSet(0, 1)), fences(19).L...)...), fences(19), fences(14))
	return just, over
}

func TestRobustAtTheLimit(t *testing.T) {
	just, over := manyStates()
	wantRobust(t, true, just, maxStates)
	wantLeast(t, just, maxStates)
	for _, most := range []int{1, 100, maxStates - 1, maxStates + 1} {
		refusesRobust(t, just, most)
		refusesLeast(t, just, most)
	}
	for _, most := range []int{1, 100, maxStates - 1, maxStates, maxStates + 1, maxStates + 2} {
		refusesRobust(t, over, most)
		refusesLeast(t, over, most)
	}
}

func TestRobustNoProg(t *testing.T) {
	for _, p := range badProgs() {
		for _, most := range append([]int{0, 1, 100, maxStates, maxStates + 1}, farInts...) {
			refusesRobust(t, p, most)
			refusesLeast(t, p, most)
		}
	}
}
