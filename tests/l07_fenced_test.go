package tests

import (
	"math/rand"
	"slices"
	"testing"

	"loop.example/g00713/impl"
)

func TestFenceConstants(t *testing.T) {
	if impl.MaxSpots != maxSpots {
		t.Error(impl.MaxSpots)
	}
}

func TestFencedWrittenOut(t *testing.T) {
	a, b, c := insStore(0, 1), insLoad(0, 1), insSet(2, -5)
	f := insFence
	p := progOf([]int{4, -4}, row(a, b, c), row(), row(c, f))
	wantFenced(t, p, nil, row(a, b, c), row(), row(c, f))
	wantFenced(t, p, []impl.Spot{}, row(a, b, c), row(), row(c, f))
	wantFenced(t, p, spotsIn(0, 0), row(f, a, b, c), row(), row(c, f))
	wantFenced(t, p, spotsIn(0, 1), row(a, f, b, c), row(), row(c, f))
	wantFenced(t, p, spotsIn(0, 2), row(a, b, f, c), row(), row(c, f))
	wantFenced(t, p, spotsIn(0, 0, 1, 2), row(f, a, f, b, f, c), row(), row(c, f))
	wantFenced(t, p, spotsIn(0, 0, 2), row(f, a, b, f, c), row(), row(c, f))
	wantFenced(t, p, spotsIn(2, 0), row(a, b, c), row(), row(f, c, f))
	// A fence may stand ahead of a fence.
	wantFenced(t, p, spotsIn(2, 1), row(a, b, c), row(), row(c, f, f))
	wantFenced(t, p, slices.Concat(spotsIn(0, 2), spotsIn(2, 0, 1)), row(a, b, f, c), row(), row(f, c, f, f))
}

func TestFencedNoSpot(t *testing.T) {
	for _, p := range append(goodProgs(), fencedProgs()...) {
		if !impl.ProgOk(p) {
			refusesFenced(t, p)
			continue
		}
		wantFenced(t, p, nil, p.T...)
		wantFenced(t, p, []impl.Spot{}, p.T...)
	}
}

// A jump leads to the fence of what it led to; the fences ahead of that move it
// on, those behind it do not.
func TestFencedJumps(t *testing.T) {
	f, c := insFence, insSet(2, 7)
	for _, jump := range []func(n int) impl.Ins{insJump, func(n int) impl.Ins { return insZero(3, n) }} {
		p := progOf([]int{0}, row(c, jump(3), c, c, c))
		wantFenced(t, p, spotsIn(0, 3), row(c, jump(3), c, f, c, c))
		wantFenced(t, p, spotsIn(0, 2), row(c, jump(4), f, c, c, c))
		wantFenced(t, p, spotsIn(0, 4), row(c, jump(3), c, c, f, c))
		wantFenced(t, p, spotsIn(0, 2, 3), row(c, jump(4), f, c, f, c, c))
		wantFenced(t, p, spotsIn(0, 3, 4), row(c, jump(3), c, f, c, f, c))
		wantFenced(t, p, spotsIn(0, 0), row(f, c, jump(4), c, c, c))
		// The fence ahead of the jump itself, too.
		wantFenced(t, p, spotsIn(0, 1), row(c, f, jump(4), c, c, c))
		wantFenced(t, p, spotsIn(0, 0, 1, 2, 3, 4), row(f, c, f, jump(6), f, c, f, c, f, c))
		// To the next one, and to the end, ahead of which no fence is put.
		q := progOf([]int{0}, row(jump(1), jump(3), c))
		wantFenced(t, q, spotsIn(0, 1), row(jump(1), f, jump(4), c))
		wantFenced(t, q, spotsIn(0, 2), row(jump(1), jump(4), f, c))
		wantFenced(t, q, spotsIn(0, 0), row(f, jump(2), jump(4), c))
		wantFenced(t, q, spotsIn(0, 0, 1, 2), row(f, jump(2), f, jump(6), f, c))
		wantFenced(t, progOf([]int{0}, row(jump(1))), spotsIn(0, 0), row(f, jump(2)))
	}
}

// Neither a thread's fences nor its jumps are another's.
func TestFencedJumpsOfOthers(t *testing.T) {
	f, c := insFence, insSet(2, 7)
	p := progOf([]int{0}, row(insJump(2), c), row(insJump(2), c), row(insJump(2), c))
	same, moved := row(insJump(2), c), row(insJump(3), f, c)
	wantFenced(t, p, spotsIn(0, 1), moved, same, same)
	wantFenced(t, p, spotsIn(1, 1), same, moved, same)
	wantFenced(t, p, spotsIn(2, 1), same, same, moved)
	wantFenced(t, p, []impl.Spot{spot(0, 1), spot(2, 1)}, moved, same, moved)
	wantFenced(t, p, []impl.Spot{spot(0, 1), spot(1, 0), spot(2, 1)}, moved, row(f, insJump(3), c), moved)
}

// N is a number of an instruction of a jump alone, however it is called.
func TestFencedOtherN(t *testing.T) {
	p := progOf([]int{1, 2, 3}, row(insSet(1, 3), insLoadAt(0, 0, 1, 3), insStoreAt(0, 1, 3, 1), insSet(2, 5), insFence))
	wantFenced(t, p, spotsIn(0, 0, 1, 2), row(insFence, insSet(1, 3), insFence, insLoadAt(0, 0, 1, 3), insFence, insStoreAt(0, 1, 3, 1), insSet(2, 5), insFence))
}

func TestFencedAgainstTheRule(t *testing.T) {
	for n := 1; n <= 5; n++ {
		for at := range n {
			for to := at + 1; to <= n; to++ {
				l := fences(n).L
				l[at] = insZero(4, to)
				if at+1 < n {
					l[at+1] = insJump(n)
				}
				p := progOf([]int{5}, row(insSet(0, 4)), row(l...))
				for _, spots := range rowsOf(allPlaces(p)) {
					want, _ := fencedByRule(p, spots)
					wantFenced(t, p, spots, want.T...)
				}
			}
		}
	}
}

func TestFencedManyAgainstTheRule(t *testing.T) {
	r := rand.New(rand.NewSource(17))
	good, bad := 0, 0
	for range 2000 {
		p := randomProg(r)
		l := some(r, allPlaces(p))
		if want, ok := fencedByRule(p, l); ok {
			wantFenced(t, p, l, want.T...)
			good++
		} else {
			refusesFenced(t, p, l...)
			bad++
		}
	}
	if good < 500 || bad < 300 {
		t.Errorf("%d programs with fences, and %d with too many", good, bad)
	}
}

func TestFencedNoPlace(t *testing.T) {
	p := progOf([]int{0, 0}, row(insFence, insFence, insFence), row(), row(insFence))
	for k, th := range p.T {
		n := len(th.L)
		for _, at := range append([]int{n, n + 1, -2}, farInts...) {
			refusesFenced(t, p, spot(k, at))
			if n > 0 {
				refusesFenced(t, p, spot(k, 0), spot(k, at))
				refusesFenced(t, p, spot(k, at), spot(k, 0))
			}
		}
	}
	for _, k := range append([]int{3, 4, -2}, farInts...) {
		for _, at := range append([]int{0, 1, 3}, farInts...) {
			refusesFenced(t, p, spot(k, at))
			refusesFenced(t, p, spot(0, 1), spot(k, at))
			refusesFenced(t, p, spot(k, at), spot(2, 0))
		}
	}
	refusesFenced(t, progOf([]int{0}, row()), spot(0, 0))
	// The last place is one.
	wantFenced(t, p, spotsIn(0, 2), fences(4), row(), fences(1))
	wantFenced(t, p, spotsIn(2, 0), fences(3), row(), fences(2))
}

func TestFencedNotAscending(t *testing.T) {
	p := progOf([]int{0, 0}, fences(3), fences(3), fences(3))
	places := allPlaces(p)
	for k, a := range places {
		for j, b := range places {
			if k >= j {
				refusesFenced(t, p, a, b)
				refusesFenced(t, p, places[0], a, b)
				refusesFenced(t, p, a, b, places[len(places)-1])
				continue
			}
			if _, ok := impl.Fenced(p, []impl.Spot{a, b}); !ok {
				t.Errorf("no fences at %v and %v", a, b)
			}
		}
	}
	// By T first: At may be less where T is more.
	wantFenced(t, p, []impl.Spot{spot(0, 2), spot(1, 1), spot(2, 0)}, fences(4), fences(4), fences(4))
	refusesFenced(t, p, spot(2, 0), spot(1, 1), spot(0, 2))
	refusesFenced(t, p, spot(1, 0), spot(0, 1))
	refusesFenced(t, p, spotsIn(1, 1, 1)...)
	refusesFenced(t, p, spotsIn(1, 0, 1, 1, 2)...)
}

func TestFencedTooLong(t *testing.T) {
	firsts := func(k int, n int) []impl.Spot { return spotsIn(k, firstNumbers(n)...) }
	for k := range impl.MaxThreads {
		for n := range impl.MaxIns + 1 {
			p := progOf([]int{0}, row(), row(), row())
			p.T[k] = fences(n)
			left := impl.MaxIns - n
			want := slices.Clone(p.T)
			want[k] = fences(n + min(n, left))
			wantFenced(t, p, firsts(k, min(n, left)), want...)
			if left < n {
				refusesFenced(t, p, firsts(k, left+1)...)
				refusesFenced(t, p, firsts(k, n)...)
				refusesFenced(t, p, spotsIn(k, firstNumbers(n)[n-left-1:]...)...)
			}
		}
	}
	// A thread that is full refuses no other one's fences.
	p := progOf([]int{0}, fences(impl.MaxIns), fences(impl.MaxIns-1), fences(impl.MaxIns))
	wantFenced(t, p, spotsIn(1, 22), fences(impl.MaxIns), fences(impl.MaxIns), fences(impl.MaxIns))
	refusesFenced(t, p, spotsIn(1, 21, 22)...)
	refusesFenced(t, p, spotsIn(0, 0)...)
	refusesFenced(t, p, spotsIn(2, 23)...)
	refusesFenced(t, p, spot(1, 22), spot(2, 0))
}

func firstNumbers(n int) []int {
	var out []int
	for k := range n {
		out = append(out, k)
	}
	return out
}

func TestFencedNoProg(t *testing.T) {
	for _, p := range badProgs() {
		refusesFenced(t, p)
		for _, s := range append(allPlaces(p), spot(0, 0), spot(1, 0), spot(-1, -1)) {
			refusesFenced(t, p, s)
		}
		refusesFenced(t, p, allPlaces(p)...)
	}
	// What would be a program with its fence is none without it.
	refusesFenced(t, progOf([]int{0}, row(insJump(1), insJump(1))), spot(0, 0))
	refusesFenced(t, progOf([]int{0}, row(insJump(2))), spot(0, 0))
}

// By each write being seen by all at once a fence does nothing, wherever jumps
// lead.
func TestFencedDoesTheSame(t *testing.T) {
	r := rand.New(rand.NewSource(27))
	for _, p := range fencedProgs() {
		want, ok := impl.Outcomes(p, impl.KdOne, maxStates)
		for range 4 {
			q, fenced := impl.Fenced(p, some(r, allPlaces(p)))
			if ok != fenced {
				t.Fatalf("%+v with fences is %+v, %v", p, q, fenced)
			}
			if fenced {
				wantOutcomes(t, q, impl.KdOne, maxStates, want...)
			}
		}
	}
}
