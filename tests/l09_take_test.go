package tests

import (
	"slices"
	"testing"

	"loop.example/g00713/impl"
)

// wantTake holds the pool behind Take against the one ahead of it with a change,
// and gives it.
func wantTake(t *testing.T, p impl.Pool, w int, change func(p *impl.Pool)) impl.Pool {
	t.Helper()
	want := poolWith(p, change)
	got, ok := impl.Take(p, w)
	if !ok || !sameValue(got, want) || !impl.PoolOk(got) {
		t.Fatalf("worker %d takes, %v:\n%+v becomes\n%+v, want\n%+v", w, ok, p, got, want)
	}
	return got
}

func refusesTake(t *testing.T, p impl.Pool, w int) {
	t.Helper()
	if got, ok := impl.Take(p, w); ok || !sameValue(got, impl.Pool{}) {
		t.Errorf("worker %d takes from %+v: %+v, %v", w, p, got, ok)
	}
}

func wantSteal(t *testing.T, p impl.Pool, w int, v int, rows ...[]int) impl.Pool {
	t.Helper()
	want := poolWith(p, func(p *impl.Pool) { p.Dq = rowsOfJobs(rows...) })
	got, ok := impl.Steal(p, w, v)
	if !ok || !sameValue(got, want) || !impl.PoolOk(got) {
		t.Fatalf("worker %d steals from %d, %v:\n%+v becomes\n%+v, want\n%+v", w, v, ok, p, got, want)
	}
	return got
}

func refusesSteal(t *testing.T, p impl.Pool, w int, v int) {
	t.Helper()
	if got, ok := impl.Steal(p, w, v); ok || !sameValue(got, impl.Pool{}) {
		t.Errorf("worker %d steals from %d of %+v: %+v, %v", w, v, p, got, ok)
	}
}

// Each job of a tree in turn, by one worker.
func TestTakeWrittenOut(t *testing.T) {
	p := newPool(t, fourJobs(), 1)
	// One with several kids.
	p = wantTake(t, p, 0, func(p *impl.Pool) {
		p.Dq[0].L, p.Ran[0], p.Left[0] = []int{1, 3}, true, 2
	})
	// One with no kids, which is not its parent's last.
	p = wantTake(t, p, 0, func(p *impl.Pool) {
		p.Dq[0].L, p.Ran[3], p.Done[3], p.Val[3] = []int{1}, true, true, 4
		p.Left[0], p.Sum[0] = 1, 4
	})
	// One with one kid.
	p = wantTake(t, p, 0, func(p *impl.Pool) {
		p.Dq[0].L, p.Ran[1], p.Left[1] = []int{2}, true, 1
	})
	// The last kid of a parent, which is the last one of number 0.
	p = wantTake(t, p, 0, func(p *impl.Pool) {
		p.Dq[0].L, p.Ran[2], p.Done[2], p.Val[2] = nil, true, true, 3
		p.Left[1], p.Sum[1], p.Done[1], p.Val[1] = 0, 3, true, 8
		p.Left[0], p.Sum[0], p.Done[0], p.Val[0] = 0, 12, true, 25
	})
	refusesTake(t, p, 0)
}

// Kids are put behind what stands in the row, in their order, which need not be
// ascending.
func TestTakePutsKidsBehind(t *testing.T) {
	l := []impl.Job{job(1, 2, 1, 3), job(2), job(3, 6, 4, 5), job(4), job(5), job(6), job(7)}
	p := newPool(t, l, 2)
	p = wantTake(t, p, 0, func(p *impl.Pool) {
		p.Dq[0].L, p.Ran[0], p.Left[0] = []int{2, 1, 3}, true, 3
	})
	p = wantSteal(t, p, 1, 0, []int{1, 3}, []int{2})
	p = wantSteal(t, p, 1, 0, []int{3}, []int{2, 1})
	p = wantSteal(t, p, 0, 1, []int{3, 2}, []int{1})
	wantTake(t, p, 0, func(p *impl.Pool) {
		p.Dq[0].L, p.Ran[2], p.Left[2] = []int{3, 6, 4, 5}, true, 3
	})
	wantTake(t, p, 1, func(p *impl.Pool) {
		p.Dq[1].L, p.Ran[1], p.Done[1], p.Val[1] = nil, true, true, 2
		p.Left[0], p.Sum[0] = 2, 2
	})
}

// One job alone is number 0, and has Done at once.
func TestTakeOneJob(t *testing.T) {
	for _, val := range append([]int{0, 5}, farInts...) {
		wantTake(t, newPool(t, []impl.Job{job(val)}, 2), 0, func(p *impl.Pool) {
			p.Dq[0].L, p.Ran[0], p.Done[0], p.Val[0] = nil, true, true, val
		})
	}
}

// Of a row of jobs none has Done until the last one has, and then all have.
func TestTakeChain(t *testing.T) {
	for n := 2; n <= maxJobs; n++ {
		p := newPool(t, chain(n, 1), 1)
		for k := range n - 1 {
			p = wantTake(t, p, 0, func(p *impl.Pool) {
				p.Dq[0].L, p.Ran[k], p.Left[k] = []int{k + 1}, true, 1
			})
		}
		p = wantTake(t, p, 0, func(p *impl.Pool) {
			p.Dq[0].L, p.Ran[n-1] = nil, true
			for k := range n {
				p.Done[k], p.Left[k] = true, 0
				p.Val[k], p.Sum[k] = 1<<(n-k)-1, 1<<(n-k-1)-1
			}
		})
		wantAnswer(t, p, 1<<n-1, true)
	}
}

// Number 0 has Done behind the last of its kids, whichever that is.
func TestTakeStar(t *testing.T) {
	for last := 1; last < 6; last++ {
		l := star(6, 10)
		others := slices.DeleteFunc(slices.Clone(l[0].Kids), func(k int) bool { return k == last })
		p := poolOf(l, ranOf(6, 0), others, []int{last})
		for left := 4; left > 0; left-- {
			k := others[left-1]
			p = wantTake(t, p, 0, func(p *impl.Pool) {
				p.Dq[0].L, p.Ran[k], p.Done[k], p.Val[k] = others[:left-1], true, true, 10
				p.Left[0], p.Sum[0] = left, 10*(5-left)
			})
		}
		wantTake(t, p, 1, func(p *impl.Pool) {
			p.Dq[1].L, p.Ran[last], p.Done[last], p.Val[last] = nil, true, true, 10
			p.Left[0], p.Sum[0], p.Done[0], p.Val[0] = 0, 50, true, 110
		})
	}
}

// A parent has Done while another job of its own parent has not: it goes up no
// further.
func TestTakeStopsWhereSomethingIsLeft(t *testing.T) {
	p := poolOf(fourJobs(), ranOf(4, 0, 1), []int{2}, []int{3})
	p = wantTake(t, p, 0, func(p *impl.Pool) {
		p.Dq[0].L, p.Ran[2], p.Done[2], p.Val[2] = nil, true, true, 3
		p.Left[1], p.Sum[1], p.Done[1], p.Val[1] = 0, 3, true, 8
		p.Left[0], p.Sum[0] = 1, 8
	})
	wantTake(t, p, 1, func(p *impl.Pool) {
		p.Dq[1].L, p.Ran[3], p.Done[3], p.Val[3] = nil, true, true, 4
		p.Left[0], p.Sum[0], p.Done[0], p.Val[0] = 0, 12, true, 25
	})
}

func TestTakeWraps(t *testing.T) {
	l := []impl.Job{job(5, 1, 2), job(maxInt), job(maxInt)}
	p := poolOf(l, ranOf(3, 0), []int{1, 2})
	p = wantTake(t, p, 0, func(p *impl.Pool) {
		p.Dq[0].L, p.Ran[2], p.Done[2], p.Val[2] = []int{1}, true, true, maxInt
		p.Left[0], p.Sum[0] = 1, maxInt
	})
	wantTake(t, p, 0, func(p *impl.Pool) {
		p.Dq[0].L, p.Ran[1], p.Done[1], p.Val[1] = nil, true, true, maxInt
		p.Left[0], p.Sum[0], p.Done[0], p.Val[0] = 0, -2, true, 1
	})
}

func TestTakeRefused(t *testing.T) {
	for _, w := range append([]int{2, 3}, strangeWorkers...) {
		refusesTake(t, midway(), w)
		refusesTake(t, newPool(t, fourJobs(), 2), w)
	}
	for workers := 1; workers <= maxWorkers; workers++ {
		p := newPool(t, fourJobs(), workers)
		for w := 1; w <= maxWorkers; w++ {
			// Empty rows, and workers that there are not.
			refusesTake(t, p, w)
		}
		refusesTake(t, allRan(fourJobs(), workers), 0)
	}
	refusesTake(t, midway(), 0)
	for _, p := range badPools() {
		for w := -1; w <= 3; w++ {
			refusesTake(t, p, w)
		}
	}
}

func TestStealWrittenOut(t *testing.T) {
	// A row with one job.
	p := newPool(t, fourJobs(), 3)
	wantSteal(t, p, 1, 0, nil, []int{0}, nil)
	wantSteal(t, wantSteal(t, p, 2, 0, nil, nil, []int{0}), 1, 2, nil, []int{0}, nil)
	// A row with several: the first one goes behind what is there.
	l := star(7, 1)
	p = poolOf(l, ranOf(7, 0), []int{1, 2, 3}, []int{4, 5, 6})
	wantSteal(t, p, 0, 1, []int{1, 2, 3, 4}, []int{5, 6})
	wantSteal(t, p, 1, 0, []int{2, 3}, []int{4, 5, 6, 1})
	p = poolOf(l, ranOf(7, 0), []int{6, 1, 3, 2, 5, 4}, nil, nil, nil)
	p = wantSteal(t, p, 3, 0, []int{1, 3, 2, 5, 4}, nil, nil, []int{6})
	p = wantSteal(t, p, 3, 0, []int{3, 2, 5, 4}, nil, nil, []int{6, 1})
	p = wantSteal(t, p, 2, 3, []int{3, 2, 5, 4}, nil, []int{6}, []int{1})
	wantSteal(t, p, 2, 3, []int{3, 2, 5, 4}, nil, []int{6, 1}, nil)
}

func TestStealRefused(t *testing.T) {
	full := poolOf(star(5, 1), ranOf(5, 0), []int{1}, []int{2}, []int{3}, []int{4})
	for w := range maxWorkers {
		refusesSteal(t, full, w, w)
		refusesSteal(t, newPool(t, fourJobs(), maxWorkers), w, 1)
	}
	for _, strange := range strangeWorkers {
		for w := range maxWorkers {
			refusesSteal(t, full, w, strange)
			refusesSteal(t, full, strange, w)
			refusesSteal(t, full, strange, strange)
		}
	}
	for workers := 1; workers < maxWorkers; workers++ {
		p := newPool(t, fourJobs(), workers)
		refusesSteal(t, p, workers, 0)
		refusesSteal(t, p, 0, workers)
		refusesSteal(t, p, -1, 0)
		refusesSteal(t, p, 0, 0)
		refusesSteal(t, allRan(fourJobs(), workers), 1, 0)
	}
	for _, p := range badPools() {
		for w := -1; w <= 3; w++ {
			for v := -1; v <= 3; v++ {
				refusesSteal(t, p, w, v)
			}
		}
	}
}

// All that may be done of small trees, each against the rule.
func TestTakeAndStealAgainstTheRule(t *testing.T) {
	picks := append(allPicks(maxWorkers), pick(-1, -1), pick(-1, 0), pick(0, -1), pick(4, 4), pick(0, 4), pick(4, 0))
	for _, l := range treesUpTo(4) {
		for workers := 1; workers <= 3; workers++ {
			for _, p := range everyPool(t, l, workers) {
				for _, k := range picks {
					wantPicked(t, p, k)
				}
			}
		}
	}
}
