package tests

import (
	"fmt"
	"math/rand"
	"slices"
	"testing"

	"loop.example/g00713/impl"
)

// randomPicks are of so many workers, and now and then of none.
func randomPicks(r *rand.Rand, n int, workers int) []impl.Pick {
	var out []impl.Pick
	for range n {
		k := pick(r.Intn(workers), r.Intn(workers))
		switch r.Intn(12) {
		case 0:
			k.W = strangeWorkers[r.Intn(len(strangeWorkers))]
		case 1:
			k.V = strangeWorkers[r.Intn(len(strangeWorkers))]
		case 2, 3, 4, 5:
			k.V = k.W
		}
		out = append(out, k)
	}
	return out
}

// wantPicked holds Take or Steal, and Play of that pick alone, against the rule,
// and gives the pool behind it.
func wantPicked(t *testing.T, p impl.Pool, k impl.Pick) (impl.Pool, bool) {
	t.Helper()
	want, wantOk := pickedBy(p, k)
	var got impl.Pool
	var ok bool
	if k.W == k.V {
		got, ok = impl.Take(p, k.W)
		refusesSteal(t, p, k.W, k.V)
	} else {
		got, ok = impl.Steal(p, k.W, k.V)
	}
	if ok != wantOk || !sameValue(got, want) {
		t.Fatalf("%+v, %v:\n%+v becomes\n%+v, want\n%+v", k, ok, p, got, want)
	}
	if !ok {
		wantPlay(t, p, []impl.Pick{k}, p, 0)
		return p, false
	}
	wantPlay(t, p, []impl.Pick{k}, got, 1)
	return got, true
}

func wantPlay(t *testing.T, p impl.Pool, l []impl.Pick, want impl.Pool, n int) {
	t.Helper()
	if got, done := impl.Play(p, l); done != n || !sameValue(got, want) {
		t.Fatalf("by %v\n%+v becomes\n%+v, %d, want\n%+v, %d", l, p, got, done, want, n)
	}
}

// everyPool are all pools that are come to by Take and Steal.
func everyPool(t *testing.T, l []impl.Job, workers int) []impl.Pool {
	t.Helper()
	seen := map[string]bool{}
	var out []impl.Pool
	for left := []impl.Pool{newPool(t, l, workers)}; len(left) > 0; {
		p := left[len(left)-1]
		left = left[:len(left)-1]
		key := fmt.Sprint(p.Dq, p.Ran)
		if seen[key] {
			continue
		}
		seen[key] = true
		out = append(out, p)
		for _, k := range allPicks(workers) {
			if next, n := impl.Play(p, []impl.Pick{k}); n > 0 {
				left = append(left, next)
			}
		}
	}
	return out
}

func TestPlayWrittenOut(t *testing.T) {
	p := newPool(t, fourJobs(), 2)
	wantPlay(t, p, []impl.Pick{pick(0, 0), pick(1, 0), pick(0, 0)}, midway(), 3)
	wantPlay(t, p, []impl.Pick{pick(1, 0), pick(1, 1), pick(0, 1), pick(1, 1), pick(1, 0)}, midway(), 5)
	wantPlay(t, midway(), []impl.Pick{pick(1, 1), pick(1, 1)}, allRan(fourJobs(), 2), 2)
	wantPlay(t, p, slices.Repeat([]impl.Pick{pick(0, 0)}, 4), allRan(fourJobs(), 2), 4)
}

func TestPlayNoPicks(t *testing.T) {
	for _, p := range []impl.Pool{midway(), newPool(t, fourJobs(), 1), allRan(fourJobs(), 3)} {
		wantPlay(t, p, nil, p, 0)
		wantPlay(t, p, []impl.Pick{}, p, 0)
	}
}

// Picks that refuse change nothing, and those behind them are done.
func TestPlayRefusedPicks(t *testing.T) {
	refused := []impl.Pick{pick(0, 0), pick(1, 0), pick(2, 0), pick(2, 1), pick(1, 2), pick(2, 2), pick(-1, -1), pick(0, -1), pick(-1, 1)}
	for _, w := range strangeWorkers {
		refused = append(refused, pick(w, w), pick(w, 0), pick(w, 1), pick(0, w), pick(1, w), pick(w, strangeWorkers[0]))
	}
	for _, k := range refused {
		wantPlay(t, midway(), []impl.Pick{k}, midway(), 0)
		wantPlay(t, midway(), []impl.Pick{k, k, pick(1, 1), k}, playedBy(midway(), pick(1, 1), k), 1+doneBy(midway(), pick(1, 1), k))
	}
	wantPlay(t, midway(), refused, midway(), 0)
	wantPlay(t, midway(), append(refused, pick(1, 1), pick(1, 1)), allRan(fourJobs(), 2), 2)
	wantPlay(t, allRan(fourJobs(), 2), append(refused, allPicks(2)...), allRan(fourJobs(), 2), 0)
}

// playedBy is the pool behind some picks, by the rule.
func playedBy(p impl.Pool, l ...impl.Pick) impl.Pool {
	for _, k := range l {
		if next, ok := pickedBy(p, k); ok {
			p = next
		}
	}
	return p
}

// doneBy is how many picks behind the first one do not refuse.
func doneBy(p impl.Pool, first impl.Pick, l ...impl.Pick) int {
	p = playedBy(p, first)
	n := 0
	for _, k := range l {
		if next, ok := pickedBy(p, k); ok {
			p, n = next, n+1
		}
	}
	return n
}

func TestPlayMostPicks(t *testing.T) {
	p := newPool(t, fourJobs(), 2)
	// To and fro, so that none refuses.
	l := slices.Repeat([]impl.Pick{pick(1, 0), pick(0, 1)}, maxPicks/2)
	wantPlay(t, p, l, p, maxPicks)
	wantPlay(t, p, l[1:], p, maxPicks-2)
	wantPlay(t, p, append(slices.Clone(l), pick(1, 0)), impl.Pool{}, 0)
	wantPlay(t, p, slices.Repeat(l, 10), impl.Pool{}, 0)
	// As many as there may be, though all refuse.
	none := slices.Repeat([]impl.Pick{pick(9, 9)}, maxPicks)
	wantPlay(t, p, none, p, 0)
	wantPlay(t, p, append(none, pick(9, 9)), impl.Pool{}, 0)
	wantPlay(t, p, append(none[1:], pick(1, 0)), playedBy(p, pick(1, 0)), 1)
}

func TestPlayRefused(t *testing.T) {
	for _, p := range badPools() {
		for _, l := range [][]impl.Pick{nil, allPicks(2), {pick(0, 0)}, {pick(1, 1)}, {pick(0, 1)}, {pick(9, 9)}, make([]impl.Pick, maxPicks), make([]impl.Pick, maxPicks+1)} {
			wantPlay(t, p, l, impl.Pool{}, 0)
		}
	}
}

// Picks in a row do what they do one by one.
func TestPlayPickByPick(t *testing.T) {
	r := rand.New(rand.NewSource(39))
	for range 200 {
		start := newPool(t, randomTree(r, 1+r.Intn(maxJobs)), 1+r.Intn(maxWorkers))
		l := randomPicks(r, r.Intn(150), len(start.Dq))
		p, n := start, 0
		for _, k := range l {
			next, ok := wantPicked(t, p, k)
			if ok {
				n++
			}
			p = next
		}
		wantPlay(t, start, l, p, n)
	}
}
