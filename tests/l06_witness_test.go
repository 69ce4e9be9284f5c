package tests

import (
	"testing"

	"loop.example/g00713/impl"
)

func TestWitnessWrittenOut(t *testing.T) {
	none := []impl.Cond{cond(0, 0, 0), cond(1, 0, 0)}
	wantWitness(t, crossed(), impl.KdBuf, none, 0, 0, 0, 0, 1, 1, 0, 0)
	wantNoWitness(t, crossed(), impl.KdOne, none)
	// Of the loads each has the first of two posts.
	wantWitness(t, crossed(), impl.KdView, none, 0, 0, 0, 0, 0, 0)
	wantWitness(t, crossed(), impl.KdView, []impl.Cond{cond(0, 0, 0), cond(1, 0, 1)}, 0, 0, 0, 0, 0, 1)
	wantWitness(t, crossed(), impl.KdView, []impl.Cond{cond(0, 0, 1), cond(1, 0, 0)}, 0, 0, 0, 1, 1, 0)
	wantWitness(t, crossed(), impl.KdOne, []impl.Cond{cond(0, 0, 1)}, 0, 0, 0, 1, 0, 0)
}

// As few moves as can be: where there are ways of more moves ahead, too.
func TestWitnessIsShort(t *testing.T) {
	// Who loads 0 goes a long way, who loads 1 has no instruction left.
	p := progOf([]int{0}, row(insLoad(1, 0), insZero(1, 3), insJump(7), insFence, insFence, insFence, insFence), row(insSet(1, 1), insStore(0, 1)))
	for _, kind := range []int{impl.KdOne, impl.KdView} {
		long, _ := impl.Witness(p, kind, maxStates, []impl.Cond{cond(0, 1, 0)})
		short, _ := impl.Witness(p, kind, maxStates, []impl.Cond{cond(0, 1, 1)})
		any, _ := impl.Witness(p, kind, maxStates, nil)
		if len(long) != 8 || len(short) != 5 || !sameValue(any, short) {
			t.Errorf("kind %d: %v, %v and %v", kind, long, short, any)
		}
	}
	wantWitness(t, p, impl.KdOne, []impl.Cond{cond(0, 1, 0)}, 0, 0, 0, 0, 0, 0, 0, 0)
	wantWitness(t, p, impl.KdOne, nil, 0, 1, 0, 0, 0)
}

// Of several rows as short as can be the least one.
func TestWitnessIsLeast(t *testing.T) {
	p := progOf([]int{4}, row(insLoad(0, 0)), row(insSet(1, 4), insStore(0, 1)), row(insLoad(2, 0), insLoad(3, 0)))
	c := []impl.Cond{cond(0, 0, 4), cond(2, 2, 4), cond(2, 3, 4)}
	wantWitness(t, p, impl.KdOne, c, 0, 0, 0, 0, 0)
	wantWitness(t, p, impl.KdBuf, c, 0, 0, 0, 0, 0, 0)
	wantWitness(t, p, impl.KdView, c, 0, 0, 0, 0, 0)
	// Of two threads that load what a third one has stored the least one is first.
	q := progOf([]int{0}, row(insLoad(0, 0)), row(insLoad(0, 0)), row(insStore(0, 1)))
	wantWitness(t, q, impl.KdOne, nil, 0, 0, 0)
	r := progOf([]int{0}, row(insLoad(0, 0)), row(insLoad(0, 0)), row(insSet(1, 1), insStore(0, 1)))
	wantWitness(t, r, impl.KdOne, []impl.Cond{cond(1, 0, 1)}, 0, 0, 1, 0)
	wantWitness(t, r, impl.KdOne, []impl.Cond{cond(0, 0, 1)}, 0, 1, 1, 0)
	wantWitness(t, r, impl.KdOne, []impl.Cond{cond(0, 0, 1), cond(1, 0, 1)}, 0, 2, 0, 0)
	wantWitness(t, r, impl.KdView, []impl.Cond{cond(0, 0, 1), cond(1, 0, 1)}, 0, 2, 1, 1)
}

func TestWitnessAgainstTheRule(t *testing.T) {
	found := 0
	for _, p := range append([]impl.Prog{crossed()}, smallProgs(40)...) {
		for _, kind := range kinds {
			l, _ := impl.Outcomes(p, kind, maxStates)
			for _, c := range someConds(l) {
				if picks, ok := leastRow(t, p, kind, c); ok {
					wantWitness(t, p, kind, c, picks...)
					found++
				} else {
					wantNoWitness(t, p, kind, c)
				}
			}
		}
	}
	if found < 300 {
		t.Errorf("only %d witnesses", found)
	}
}

// Where there are too many states nothing is told, however short the way is.
func TestWitnessOfTooMany(t *testing.T) {
	p := progOf([]int{0}, row(insLoad(1, 0), insZero(1, 3), insJump(9), insFence, insFence, insFence, insFence, insFence, insFence), row(insSet(1, 1), insStore(0, 1)))
	for _, kind := range kinds {
		c := []impl.Cond{cond(0, 1, 1)}
		n, _ := impl.States(p, kind, maxStates)
		want, ok := impl.Witness(p, kind, n, c)
		if !ok || len(want) == 0 {
			t.Fatalf("kind %d: %v leads %+v to %v, %v", kind, want, p, c, ok)
		}
		for most := range n {
			if picks, ok := impl.Witness(p, kind, most, c); ok || len(picks) != 0 {
				t.Errorf("kind %d, %d states at most: %v leads %+v to %v", kind, most, picks, p, c)
			}
		}
	}
}

func TestWitnessDoneAtStart(t *testing.T) {
	for _, p := range []impl.Prog{progOf([]int{3}, row()), progOf([]int{-1, 2}, row(), row(), row())} {
		for _, kind := range kinds {
			wantWitness(t, p, kind, nil)
			wantWitness(t, p, kind, []impl.Cond{cond(0, 3, 0)})
			wantNoWitness(t, p, kind, []impl.Cond{cond(0, 3, 3)})
		}
	}
}
