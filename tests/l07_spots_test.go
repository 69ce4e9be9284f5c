package tests

import (
	"math/rand"
	"slices"
	"testing"

	"loop.example/g00713/impl"
)

// wantSpotsAt is about a program of one thread that is alone, and one that
// stands between two others.
func wantSpotsAt(t *testing.T, l []impl.Ins, ats ...int) {
	t.Helper()
	init := []int{0, 0, 0}
	wantSpots(t, progOf(init, row(l...)), spotsIn(0, ats...)...)
	around := progOf(init, row(insStore(0, 1)), row(l...), row(insLoad(0, 1)))
	wantSpots(t, around, spotsIn(1, ats...)...)
}

var (
	someStore   = insStore(0, 1)
	otherStore  = insStore(1, 2)
	someStoreAt = insStoreAt(0, 1, 2, 3)
	someLoad    = insLoad(0, 0)
	otherLoad   = insLoad(3, 1)
	someLoadAt  = insLoadAt(2, 0, 1, 3)
	someCas     = insCas(0, 0, 1, 2)
	someSet     = insSet(4, 4)
)

func TestSpotsOfStoresAndLoads(t *testing.T) {
	wantSpotsAt(t, nil)
	for _, load := range ins(someLoad, otherLoad, someLoadAt) {
		wantSpotsAt(t, ins(load))
		wantSpotsAt(t, ins(load, load))
		wantSpotsAt(t, ins(someCas, load))
		wantSpotsAt(t, ins(insFence, load))
		wantSpotsAt(t, ins(insJump(1), load))
		for _, store := range ins(someStore, otherStore, someStoreAt) {
			wantSpotsAt(t, ins(store))
			wantSpotsAt(t, ins(store, load), 1)
			wantSpotsAt(t, ins(load, store))
			wantSpotsAt(t, ins(load, store, load), 2)
			wantSpotsAt(t, ins(store, load, load), 1, 2)
			wantSpotsAt(t, ins(store, load, store), 1)
			wantSpotsAt(t, ins(store, load, store, load), 1, 3)
			wantSpotsAt(t, ins(store, store, otherStore, load), 3)
			wantSpotsAt(t, ins(store, someSet, insMov(), load), 3)
			wantSpotsAt(t, ins(someSet, store, someSet, someLoad, someSet, load, someSet), 3, 5)
			// InCas is neither a store nor a load.
			wantSpotsAt(t, ins(store, someCas))
			wantSpotsAt(t, ins(someCas, store, load), 2)
		}
	}
}

func insMov() impl.Ins {
	return impl.Ins{Op: impl.InMov, R: 1, A: 2}
}

// A fence counts if it stands between the last store and the load.
func TestSpotsOfFences(t *testing.T) {
	for _, fence := range ins(insFence, someCas, insCas(0, 1, 5, 5)) {
		wantSpotsAt(t, ins(someStore, fence, someLoad))
		wantSpotsAt(t, ins(someStore, fence, otherLoad, someLoadAt))
		wantSpotsAt(t, ins(someStoreAt, fence, someLoad))
		wantSpotsAt(t, ins(fence, someStore, someLoad), 2)
		wantSpotsAt(t, ins(someStore, someLoad, fence), 1)
		wantSpotsAt(t, ins(someStore, someLoad, fence, someLoad), 1)
		wantSpotsAt(t, ins(someStore, fence, someLoad, otherStore, someLoad), 4)
		wantSpotsAt(t, ins(someStore, fence, otherStore, someLoad), 3)
		wantSpotsAt(t, ins(someStore, fence, someStoreAt, someLoad), 3)
		wantSpotsAt(t, ins(someStore, otherStore, fence, someLoad))
		wantSpotsAt(t, ins(someStore, fence, fence, someLoad))
		wantSpotsAt(t, ins(someStore, someSet, fence, someSet, someLoad))
		wantSpotsAt(t, ins(fence, someStore, fence, someLoad, fence, someStore, fence, someLoad))
	}
}

// A fence over which a jump leads does not count, wherever the jump stands
// ahead of it; one at which a jump ends does.
func TestSpotsOfJumps(t *testing.T) {
	for _, fence := range ins(insFence, someCas) {
		for _, jump := range []func(n int) impl.Ins{insJump, func(n int) impl.Ins { return insZero(5, n) }} {
			// Between the store and the fence.
			wantSpotsAt(t, ins(someStore, jump(2), fence, someLoad))
			wantSpotsAt(t, ins(someStore, jump(3), fence, someLoad), 3)
			wantSpotsAt(t, ins(someStore, jump(4), fence, someLoad), 3)
			wantSpotsAt(t, ins(someStore, jump(4), fence, someSet, someLoad), 4)
			wantSpotsAt(t, ins(someStore, jump(5), fence, someLoad, someLoad), 3, 4)
			// Ahead of the store.
			wantSpotsAt(t, ins(jump(1), someStore, fence, someLoad))
			wantSpotsAt(t, ins(jump(2), someStore, fence, someLoad))
			wantSpotsAt(t, ins(jump(3), someStore, fence, someLoad), 3)
			wantSpotsAt(t, ins(jump(4), someStore, fence, someLoad), 3)
			wantSpotsAt(t, ins(jump(4), someSet, someStore, someSet, fence, someLoad))
			wantSpotsAt(t, ins(jump(5), someSet, someStore, someSet, fence, someLoad), 5)
			// Behind the fence, be it over the load.
			wantSpotsAt(t, ins(someStore, fence, jump(3), someLoad))
			wantSpotsAt(t, ins(someStore, fence, jump(4), someLoad))
			wantSpotsAt(t, ins(someStore, fence, jump(5), someLoad, someLoad))
			// Over the store alone, and over the load alone.
			wantSpotsAt(t, ins(jump(2), someStore, someLoad), 2)
			wantSpotsAt(t, ins(someStore, jump(3), someLoad), 2)
			wantSpotsAt(t, ins(jump(3), someStore, someLoad), 2)
		}
	}
}

func TestSpotsOfSeveralJumps(t *testing.T) {
	for _, fence := range ins(insFence, someCas) {
		// One fence is leapt over, the other one is not.
		wantSpotsAt(t, ins(someStore, insZero(0, 3), fence, fence, someLoad))
		wantSpotsAt(t, ins(someStore, insZero(0, 4), fence, fence, someLoad), 4)
		wantSpotsAt(t, ins(someStore, fence, insZero(0, 4), fence, someLoad))
		wantSpotsAt(t, ins(someStore, fence, insZero(0, 5), someStore, fence, someLoad), 5)
		// One jump leads over the fence; the nearer one, or the one that is further
		// ahead, does not.
		wantSpotsAt(t, ins(insZero(0, 4), insZero(0, 2), someStore, fence, someLoad), 4)
		wantSpotsAt(t, ins(insZero(0, 2), insZero(0, 4), someStore, fence, someLoad), 4)
		wantSpotsAt(t, ins(insZero(0, 1), insZero(0, 3), someStore, fence, someLoad))
		wantSpotsAt(t, ins(insZero(0, 3), insZero(0, 3), someStore, fence, someLoad))
		wantSpotsAt(t, ins(someStore, insZero(0, 4), insJump(4), insFence, someLoad), 4)
		wantSpotsAt(t, ins(someStore, insZero(0, 3), insJump(4), insFence, someLoad), 4)
		wantSpotsAt(t, ins(someStore, insZero(0, 5), insFence, someLoad, insFence, someLoad), 3, 5)
		wantSpotsAt(t, ins(someStore, insZero(0, 4), insFence, someLoad, insFence, someLoad), 3)
	}
}

// By T, then by At; what one thread does is nothing to another.
func TestSpotsOfSeveralThreads(t *testing.T) {
	init := []int{0, 0, 0}
	wantSpots(t, progOf(init, row(someStore), row(someLoad)))
	wantSpots(t, progOf(init, row(someStore, insFence), row(someStore, someLoad)), spot(1, 1))
	wantSpots(t, progOf(init, row(insJump(3), someStore, someSet), row(someStore, insFence, someLoad)))
	wantSpots(t, progOf(init, row(someStore, someSet, someLoad, someLoad), row(someStore, someLoad)), spot(0, 2), spot(0, 3), spot(1, 1))
	wantSpots(t, progOf(init, row(), row(someSet, someStoreAt, someLoadAt, someLoadAt), row(someStore, someLoad)), spot(1, 2), spot(1, 3), spot(2, 1))
	wantSpots(t, progOf(init, row(someStore, someLoad), row(), row(someStore, someLoad)), spot(0, 1), spot(2, 1))
	wantSpots(t, progOf(init, row(someLoad), row(someStore, insFence, someLoad), row(someStore, otherLoad)), spot(2, 1))
	wantSpots(t, crossed(), spot(0, 2), spot(1, 2))
	wantSpots(t, crossed(insFence))
	wantSpots(t, sample(), spot(0, 8))
}

// There may be more than LeastFences looks at.
func TestSpotsMany(t *testing.T) {
	l := ins(someStore)
	for range impl.MaxIns - 1 {
		l = append(l, someLoad)
	}
	p := progOf([]int{0}, row(l...), row(l...), row(l...))
	wantSpots(t, p, slices.Concat(spotsIn(0, firstNumbers(24)[1:]...), spotsIn(1, firstNumbers(24)[1:]...), spotsIn(2, firstNumbers(24)[1:]...))...)
}

func TestSpotsNoProg(t *testing.T) {
	for _, p := range append(badProgs(), impl.Prog{T: crossed().T}, impl.Prog{Init: []int{0}, T: crossed().T}) {
		wantSpots(t, p)
	}
	for _, n := range farInts {
		p := crossed()
		p.T[1].L = append(p.T[1].L, insJump(n))
		wantSpots(t, p)
	}
	p := crossed()
	p.T = append(p.T, row(), row())
	wantSpots(t, p)
}

// eachThread calls with all threads of n instructions of some kinds.
func eachThread(n int, l []impl.Ins, f func(l []impl.Ins)) {
	if len(l) == n {
		f(l)
		return
	}
	next := ins(someStore, someLoad, someLoadAt, insFence, someCas, someSet)
	for to := len(l) + 1; to <= n; to++ {
		next = append(next, insZero(0, to))
	}
	for _, i := range next {
		eachThread(n, append(l, i), f)
	}
}

func TestSpotsAgainstTheRule(t *testing.T) {
	for n := range 6 {
		eachThread(n, nil, func(l []impl.Ins) {
			p := progOf([]int{0, 0, 0}, row(l...))
			wantSpots(t, p, spotsByRule(p)...)
		})
	}
	r := rand.New(rand.NewSource(37))
	found := 0
	for k := range 6000 {
		p := randomProg(r)
		if k%2 == 0 {
			p = storingProg(r)
		}
		want := spotsByRule(p)
		wantSpots(t, p, want...)
		found += len(want)
	}
	if found < 3000 {
		t.Errorf("only %d spots", found)
	}
}

// Where no jump leads over its fence, a load that has one is no spot any more.
func TestSpotsBehindFenced(t *testing.T) {
	for _, p := range fencedProgs() {
		if !impl.ProgOk(p) || slices.ContainsFunc(p.T, func(t impl.Thread) bool { return slices.ContainsFunc(t.L, isJump) }) {
			continue
		}
		if q, ok := impl.Fenced(p, impl.Spots(p)); !ok || len(impl.Spots(q)) != 0 {
			t.Errorf("%+v has the spots %v, and %+v has %v", p, impl.Spots(p), q, impl.Spots(q))
		}
	}
}
