package tests

import (
	"slices"
	"testing"

	"loop.example/g00713/impl"
)

// rounds is two threads that are crossed so often, each time with other cells.
func rounds(n int) impl.Prog {
	p := progOf(make([]int, 2*n))
	for k := range 2 {
		l := ins(insSet(1, 1))
		for j := range n {
			l = append(l, insStore(2*j+k, 1), insLoad(2+j, 2*j+1-k))
		}
		p.T = append(p.T, row(l...))
	}
	return p
}

// ownLoads are loads, of no effect, of what the thread has stored itself.
func ownLoads(k int, n int) []impl.Ins {
	return slices.Repeat(ins(insLoad(5, k)), n)
}

func TestLeastFencesWrittenOut(t *testing.T) {
	wantLeast(t, crossed(), maxStates, spot(0, 2), spot(1, 2))
	wantLeast(t, rounds(1), maxStates, spot(0, 2), spot(1, 2))
	wantLeast(t, rounds(2), maxStates, spot(0, 2), spot(0, 4), spot(1, 2), spot(1, 4))
	wantLeast(t, rounds(3), maxStates, spot(0, 2), spot(0, 4), spot(0, 6), spot(1, 2), spot(1, 4), spot(1, 6))
	// Where one thread waits already the other one is to wait alone.
	wantLeast(t, crossedWith(ins(insFence), nil), maxStates, spot(1, 2))
	wantLeast(t, crossedWith(nil, ins(insFence)), maxStates, spot(0, 2))
	wantLeast(t, crossedWith(nil, ins(insCas(3, 0, 4, 4))), maxStates, spot(0, 2))
	// A jump that leads over a fence makes it count for nothing.
	p := crossedWith(ins(insLoad(3, 1), insZero(3, 5), insFence), ins(insFence))
	wantLeast(t, p, maxStates, spot(0, 2))
	wantSpots(t, p, spot(0, 2), spot(0, 5))
	q := crossedWith(ins(insZero(3, 4), insFence), ins(insFence))
	wantLeast(t, q, maxStates, spot(0, 4))
}

func TestLeastFencesNoneWanted(t *testing.T) {
	for _, p := range []impl.Prog{
		crossed(insFence),
		threeLoads(),
		progOf([]int{0, 0}, row(insStore(0, 1)), row(insLoad(0, 0))),
	} {
		wantSpots(t, p)
		wantLeast(t, p, maxStates)
		wantLeast(t, p, statesWanted(t, p))
	}
	for _, p := range []impl.Prog{
		progOf([]int{0, 0}, row(insSet(1, 1), insStore(0, 1), insLoad(0, 1))),
		progOf([]int{0, 0}, crossed().T[0], row(insLoad(0, 0))),
		progOf([]int{0}, row(insSet(1, 1), insStore(0, 1), insLoad(0, 0)), row(insSet(1, 2), insStore(0, 1), insLoad(0, 0))),
	} {
		if len(impl.Spots(p)) == 0 {
			t.Fatalf("%+v has no spots", p)
		}
		wantLeast(t, p, maxStates)
		// No other row is looked at, so no more states are wanted.
		wantLeast(t, p, statesWanted(t, p))
		refusesLeast(t, p, statesWanted(t, p)-1)
	}
}

// Of several rows as short as can be the first one.
func TestLeastFencesFirstRow(t *testing.T) {
	for first := range 3 {
		for second := range 3 {
			p := crossedWith(ownLoads(0, first), ownLoads(1, second))
			wantSpots(t, p, slices.Concat(spotsIn(0, 2, 3, 4)[:first+1], spotsIn(1, 2, 3, 4)[:second+1])...)
			wantLeast(t, p, maxStates, spot(0, 2), spot(1, 2))
			for _, row := range [][]impl.Spot{{spot(0, 2+first), spot(1, 2)}, {spot(0, 2), spot(1, 2+second)}, {spot(0, 2+first), spot(1, 2+second)}} {
				q, _ := impl.Fenced(p, row)
				wantRobust(t, true, q, maxStates)
			}
			fenced := crossedWith(ownLoads(0, first), ins(insFence))
			wantLeast(t, fenced, maxStates, spot(0, 2))
		}
	}
	// A spot ahead of the store that is to wait is none of them, though it is less.
	p := crossed()
	p.Init = append(p.Init, 0)
	p.T[0].L = slices.Insert(p.T[0].L, 1, insStore(2, 1), insLoad(5, 2))
	wantSpots(t, p, spot(0, 2), spot(0, 4), spot(1, 2))
	wantLeast(t, p, maxStates, spot(0, 4), spot(1, 2))
}

func TestLeastFencesMaxSpots(t *testing.T) {
	for n := range maxSpots + 3 {
		alone := progOf([]int{0}, row(append(ins(insStore(0, 1)), ownLoads(0, n)...)...))
		apart := progOf([]int{0, 0, 0}, row(append(ins(insStore(0, 1)), ownLoads(0, n/2)...)...), row(), row(append(ins(insStore(2, 1)), ownLoads(2, n-n/2)...)...))
		crossed := crossedWith(ownLoads(0, max(0, n-2)), nil)
		if n <= maxSpots {
			wantLeast(t, alone, maxStates)
			wantLeast(t, apart, maxStates)
			wantLeast(t, crossed, maxStates, spot(0, 2), spot(1, 2))
		} else {
			refusesLeast(t, alone, maxStates)
			refusesLeast(t, apart, maxStates)
			refusesLeast(t, crossed, maxStates)
			wantRobust(t, true, alone, maxStates)
		}
	}
	// All spots but one are wanted.
	p := rounds(3)
	p.T[1].L = append(p.T[1].L, ownLoads(5, 2)...)
	want := slices.Concat(spotsIn(0, 2, 4, 6), spotsIn(1, 2, 4, 6))
	wantSpots(t, p, append(want, spotsIn(1, 7, 8)...)...)
	wantLeast(t, p, maxStates, want...)
	p.T[1].L = append(p.T[1].L, ownLoads(5, 1)...)
	refusesLeast(t, p, maxStates)
}

// harmless has a spot, number 7, at which a fence changes nothing but how many
// states there are: behind another fence, over which no jump leads that is taken.
func harmless() []impl.Ins {
	return ins(insSet(1, 1), insStore(1, 1), insFence, insLoad(0, 0), insStore(2, 1), insZero(1, 7), insFence, insLoad(3, 2))
}

// wanting has a spot, number 2, at which a fence is wanted beside harmless.
func wanting() []impl.Ins {
	return ins(insSet(1, 1), insStore(0, 1), insLoad(0, 1))
}

// padded has so many instructions, of which those that come last do nothing.
func padded(l []impl.Ins, n int) []impl.Ins {
	for len(l) < n {
		l = append(l, insSet(5, 0))
	}
	return l
}

// A row that has no place for its fence is looked at, or is not, as the first
// one that is enough stands behind or ahead of it.
func TestLeastFencesNoPlace(t *testing.T) {
	init := []int{0, 0, 0}
	for n := 20; n <= impl.MaxIns; n++ {
		ahead := progOf(init, row(padded(harmless(), n)...), row(wanting()...))
		behind := progOf(init, row(wanting()...), row(padded(harmless(), n)...))
		wantSpots(t, ahead, spot(0, 7), spot(1, 2))
		wantSpots(t, behind, spot(0, 2), spot(1, 7))
		wantLeast(t, behind, maxStates, spot(0, 2))
		if n < impl.MaxIns {
			wantLeast(t, ahead, maxStates, spot(1, 2))
		} else {
			refusesLeast(t, ahead, maxStates)
		}
		// Where the one that is wanted has no place there is none.
		full := progOf(init, row(padded(wanting(), n)...), row(harmless()...))
		if n < impl.MaxIns {
			wantLeast(t, full, maxStates, spot(0, 2))
		} else {
			refusesLeast(t, full, maxStates)
		}
	}
	// A full thread whose spots nobody looks at.
	alone := progOf(init, row(padded(wanting(), impl.MaxIns)...))
	wantSpots(t, alone, spot(0, 2))
	wantLeast(t, alone, maxStates)
}

// statesFenced is how many states are wanted with fences at a row of spots.
func statesFenced(t *testing.T, p impl.Prog, row ...impl.Spot) int {
	t.Helper()
	q, ok := impl.Fenced(p, row)
	if !ok {
		t.Fatalf("no fences of %+v at %v", p, row)
	}
	return statesWanted(t, q)
}

// The same of a row that has too many states.
func TestLeastFencesTooManyStates(t *testing.T) {
	init := []int{0, 0, 0}
	ahead := progOf(init, row(harmless()...), row(wanting()...))
	n, more := statesFenced(t, ahead), statesFenced(t, ahead, spot(0, 7))
	if n >= more || statesFenced(t, ahead, spot(1, 2)) > n {
		t.Fatalf("%d and %d states", n, more)
	}
	for most := n - 2; most <= more+2; most++ {
		if most < more {
			refusesLeast(t, ahead, most)
		} else {
			wantLeast(t, ahead, most, spot(1, 2))
		}
	}
	behind := progOf(init, row(wanting()...), row(harmless()...))
	n, more = statesFenced(t, behind), statesFenced(t, behind, spot(1, 7))
	if n >= more || statesFenced(t, behind, spot(0, 2)) > n {
		t.Fatalf("%d and %d states", n, more)
	}
	for most := n - 2; most <= more+2; most++ {
		if most < n {
			refusesLeast(t, behind, most)
		} else {
			wantLeast(t, behind, most, spot(0, 2))
		}
	}
}

// Rows of as many spots are looked at by their first spot, then by the second
// one: of the spots a, b, c and d the row a, d ahead of b, c.
func TestLeastFencesOrderOfRows(t *testing.T) {
	one := insSet(1, 1)
	first := row(one, insStore(0, 1), insZero(1, 4), insFence, insLoad(5, 0), insStore(1, 1), insLoad(0, 3), insStore(2, 1), insLoad(2, 4))
	second := row(one, insStore(3, 1), insFence, insLoad(0, 1), insStore(4, 1), insFence, insLoad(2, 2), insStore(5, 1), insZero(1, 10), insFence, insLoad(3, 5))
	p := progOf(make([]int, 6), first, second)
	a, b, c, d := spot(0, 4), spot(0, 6), spot(0, 8), spot(1, 10)
	wantSpots(t, p, a, b, c, d)
	most := 0
	for _, row := range [][]impl.Spot{nil, {a}, {b}, {c}, {d}, {a, b}, {a, c}, {b, c}} {
		most = max(most, statesFenced(t, p, row...))
	}
	wanted := statesFenced(t, p, a, d)
	if wanted <= most {
		t.Fatalf("%d states, %d of all others", wanted, most)
	}
	wantLeast(t, p, wanted, b, c)
	refusesLeast(t, p, wanted-1)
}

func TestLeastFencesAtMost(t *testing.T) {
	for _, p := range slices.Concat(walkedProgs(), []impl.Prog{crossed(), crossed(insFence), rounds(2)}, storingProgs(10)) {
		n := 0
		want, ok := leastByRule(p, maxStates)
		for _, row := range rowsOf(spotsByRule(p)) {
			n = max(n, statesFenced(t, p, row...))
			if sameValue(row, want) {
				break
			}
		}
		if !ok {
			t.Fatalf("no fences are enough for %+v", p)
		}
		for _, most := range []int{n, n + 1, maxStates} {
			wantLeast(t, p, most, want...)
		}
		for _, most := range []int{1, 2, n - 1} {
			if most < n {
				refusesLeast(t, p, most)
			}
		}
		for _, most := range append([]int{0, maxStates + 1}, farInts...) {
			refusesLeast(t, p, most)
		}
	}
}

func TestLeastFencesAgainstTheRule(t *testing.T) {
	found, refused := map[int]int{}, 0
	for _, p := range append(smallProgs(40), storingProgs(60)...) {
		n := statesWanted(t, p)
		for _, most := range []int{n - 1, n, n + 1, n + 3, n + 9, maxStates} {
			want, ok := leastByRule(p, most)
			if ok {
				wantLeast(t, p, most, want...)
				found[len(want)]++
			} else {
				refusesLeast(t, p, most)
				refused++
			}
		}
	}
	if found[0] < 50 || found[1] < 50 || found[2] < 50 || found[3] < 5 || refused < 100 {
		t.Errorf("so many rows of some length: %v, and %d refused", found, refused)
	}
}
