package tests

import (
	"math/rand"
	"slices"
	"testing"

	"loop.example/g00713/impl"
)

func TestPoolNewWrittenOut(t *testing.T) {
	want := impl.Pool{
		L:    fourJobs(),
		Dq:   rowsOfJobs([]int{0}, nil, nil),
		Ran:  make([]bool, 4),
		Done: make([]bool, 4),
		Left: make([]int, 4),
		Sum:  make([]int, 4),
		Val:  make([]int, 4),
	}
	if got := newPool(t, fourJobs(), 3); !sameValue(got, want) {
		t.Errorf("a new pool is %+v, want %+v", got, want)
	}
	one := impl.Pool{L: []impl.Job{job(5)}, Dq: rowsOfJobs([]int{0}), Ran: []bool{false}, Done: []bool{false}, Left: []int{0}, Sum: []int{0}, Val: []int{0}}
	if got := newPool(t, []impl.Job{job(5)}, 1); !sameValue(got, one) {
		t.Errorf("a new pool is %+v, want %+v", got, one)
	}
}

func TestPoolNewWorkers(t *testing.T) {
	for _, l := range append(treesUpTo(4), chain(maxJobs, 1), star(maxJobs, 2)) {
		for workers := 1; workers <= maxWorkers; workers++ {
			rows := make([][]int, workers)
			rows[0] = []int{0}
			got, want := newPool(t, l, workers), poolOf(l, make([]bool, len(l)), rows...)
			if !sameValue(got, want) || !impl.PoolOk(got) {
				t.Errorf("a new pool of %d workers is %+v, want %+v", workers, got, want)
			}
		}
	}
}

func TestPoolNewRefused(t *testing.T) {
	refuses := func(l []impl.Job, workers int) {
		t.Helper()
		if p, ok := impl.PoolNew(l, workers); ok || !sameValue(p, impl.Pool{}) {
			t.Errorf("of %v and %d workers comes %+v, %v", l, workers, p, ok)
		}
	}
	for _, workers := range append([]int{-2, 0, maxWorkers + 1, maxWorkers + 2}, farInts...) {
		refuses(fourJobs(), workers)
		refuses([]impl.Job{job(1)}, workers)
		refuses(nil, workers)
	}
	for _, l := range badJobs() {
		for workers := 1; workers <= maxWorkers; workers++ {
			refuses(l, workers)
		}
	}
}

// wantPool holds midway with a change against what PoolOk is to answer.
func wantPool(t *testing.T, want bool, change func(p *impl.Pool)) {
	t.Helper()
	p := poolWith(midway(), change)
	if got := impl.PoolOk(p); got != want {
		t.Errorf("whether this is a pool is %v: %+v", got, p)
	}
}

func TestPoolOkOrdinary(t *testing.T) {
	wantPool(t, true, func(p *impl.Pool) {})
	wantPool(t, true, func(p *impl.Pool) { *p = newPool(t, fourJobs(), 2) })
	wantPool(t, true, func(p *impl.Pool) { *p = allRan(fourJobs(), 2) })
	// Whoever has a job, and in whatever order.
	wantPool(t, true, func(p *impl.Pool) { p.Dq[0], p.Dq[1] = p.Dq[1], p.Dq[0] })
	for _, row := range [][]int{{1, 3}, {3, 1}} {
		wantPool(t, true, func(p *impl.Pool) { *p = poolOf(fourJobs(), ranOf(4, 0), nil, row) })
	}
	// What a job has that has not Done is of no matter yet.
	wantPool(t, true, func(p *impl.Pool) { p.L[0].Val, p.L[1].Val, p.L[2].Val = maxInt, minInt, 0 })
	wantPool(t, true, func(p *impl.Pool) { p.L[0].Kids = []int{3, 1} })
}

func TestPoolOkJobs(t *testing.T) {
	for _, l := range badJobs() {
		wantPool(t, false, func(p *impl.Pool) { p.L = l })
		n := len(l)
		bad := impl.Pool{L: l, Dq: rowsOfJobs([]int{0}), Ran: make([]bool, n), Done: make([]bool, n), Left: make([]int, n), Sum: make([]int, n), Val: make([]int, n)}
		if impl.PoolOk(bad) {
			t.Errorf("a pool of %v", l)
		}
	}
	wantPool(t, false, func(p *impl.Pool) { p.L[3].Kids = []int{4}; p.L = append(p.L, job(5)) })
	wantPool(t, false, func(p *impl.Pool) { p.L[3].Val = 5 })
	wantPool(t, false, func(p *impl.Pool) { p.L[3].Val = -4 })
}

func TestPoolOkRows(t *testing.T) {
	for workers := range maxWorkers + 3 {
		wantPool(t, 1 <= workers && workers <= maxWorkers, func(p *impl.Pool) {
			p.Dq = make([]impl.Row, workers)
			if workers > 0 {
				p.Dq[workers/2].L = []int{1}
			}
		})
		// The last row counts, too.
		wantPool(t, false, func(p *impl.Pool) {
			p.Dq = append(rowsOfJobs([]int{1}), make([]impl.Row, workers)...)
			p.Dq[workers].L = append(p.Dq[workers].L, 1)
		})
	}
	wantPool(t, false, func(p *impl.Pool) { p.Dq = nil })
}

func TestPoolOkStanding(t *testing.T) {
	for _, rows := range [][][]int{
		{nil, nil},                // in no row
		{{1}, {1}}, {{1, 1}, nil}, // in two rows, twice in one
		{{2}, {1}}, {{1, 2}, nil}, // its parent has not Ran
		{{2}, nil},                // the kid in place of its parent
		{{3}, {1}}, {{0, 1}, nil}, // has Ran
		{{0}, nil}, {{1, 3}, nil}, // the same
		{{-1}, {1}}, {{1}, {1, -1}}, // no job
		{{4}, {1}}, {{4, 1}, nil}, // no job
		{{1}, {maxInt}}, {{1}, {100}}, // no job
		{{minInt}, {1}}, {{minInt + 1, 1}, nil}, {{1, maxInt - 1}, nil},
	} {
		wantPool(t, false, func(p *impl.Pool) { p.Dq = rowsOfJobs(rows...) })
	}
	for _, rows := range [][][]int{{nil, nil}, {{0}, {0}}, {{0, 0}, nil}, {{1}, nil}, {{0}, {1}}, {{0, 3}, nil}, {{0, 2}, nil}} {
		wantPool(t, false, func(p *impl.Pool) {
			*p = newPool(t, fourJobs(), 2)
			p.Dq = rowsOfJobs(rows...)
		})
	}
	for k := range 4 {
		wantPool(t, false, func(p *impl.Pool) {
			*p = allRan(fourJobs(), 2)
			p.Dq[1].L = []int{k}
		})
	}
}

// A job that has Ran, with all else as if its parent had.
func TestPoolOkRan(t *testing.T) {
	wantPool(t, false, func(p *impl.Pool) { p.Ran[2], p.Done[2], p.Val[2] = true, true, 3 })
	wantPool(t, false, func(p *impl.Pool) { p.Ran[1] = true })
	wantPool(t, false, func(p *impl.Pool) { p.Ran[3] = false })
	wantPool(t, false, func(p *impl.Pool) { p.Ran[0] = false })
	wantPool(t, true, func(p *impl.Pool) { p.Ran[1], p.Left[1], p.Dq[0].L, p.Dq[1].L = true, 1, []int{2}, nil })
	wantPool(t, true, func(p *impl.Pool) {
		p.Ran[3], p.Done[3], p.Val[3], p.Left[0], p.Sum[0], p.Dq[0].L = false, false, 0, 2, 0, []int{3}
	})
	for _, jobs := range [][]int{{1, 2, 3}, {1}, {2}, {3}, {2, 3}} {
		wantPool(t, false, func(p *impl.Pool) { *p = poolOf(fourJobs(), ranOf(4, jobs...), []int{0}, nil) })
	}
}

func TestPoolOkDone(t *testing.T) {
	// A kid has not, one has not Ran, and one has no kid left.
	wantPool(t, false, func(p *impl.Pool) { p.Done[0] = true })
	wantPool(t, false, func(p *impl.Pool) { p.Done[0], p.Val[0] = true, 9 })
	wantPool(t, false, func(p *impl.Pool) { p.Done[0], p.Val[0], p.Left[0] = true, 9, 0 })
	wantPool(t, false, func(p *impl.Pool) { p.Done[1] = true })
	wantPool(t, false, func(p *impl.Pool) { p.Done[1], p.Val[1], p.Sum[0], p.Left[0] = true, 2, 6, 0 })
	wantPool(t, false, func(p *impl.Pool) { p.Done[2] = true })
	wantPool(t, false, func(p *impl.Pool) { p.Done[2], p.Val[2] = true, 3 })
	wantPool(t, false, func(p *impl.Pool) { p.Done[3] = false })
	wantPool(t, false, func(p *impl.Pool) { p.Done[3], p.Val[3], p.Sum[0], p.Left[0] = false, 0, 0, 2 })
	for k := range 4 {
		wantPool(t, false, func(p *impl.Pool) { *p = allRan(fourJobs(), 2); p.Done[k] = false })
	}
	wantPool(t, false, func(p *impl.Pool) { *p = allRan(fourJobs(), 2); p.Done[0], p.Val[0] = false, 0 })
}

// numbersOf are Left, Sum and Val.
func numbersOf(p *impl.Pool) [][]int {
	return [][]int{p.Left, p.Sum, p.Val}
}

// Each number of each job that is another than it is to be.
func TestPoolOkNumbers(t *testing.T) {
	for field := range 3 {
		for k := range 4 {
			for _, by := range append([]int{-2, 1, 2, 3}, farInts...) {
				wantPool(t, false, func(p *impl.Pool) { numbersOf(p)[field][k] += by })
				wantPool(t, false, func(p *impl.Pool) { *p = newPool(t, fourJobs(), 2); numbersOf(p)[field][k] += by })
				wantPool(t, false, func(p *impl.Pool) { *p = allRan(fourJobs(), 2); numbersOf(p)[field][k] += by })
			}
		}
	}
	// What a job that has not Ran would have if it had, and Val ahead of Done.
	wantPool(t, false, func(p *impl.Pool) { p.Left[1] = 1 })
	wantPool(t, false, func(p *impl.Pool) { *p = newPool(t, fourJobs(), 1); p.Left[0] = 2 })
	wantPool(t, false, func(p *impl.Pool) { p.Val[1] = 2 })
	wantPool(t, false, func(p *impl.Pool) { p.Val[0] = 9 })
	wantPool(t, false, func(p *impl.Pool) { p.Val[2] = 3 })
	// Sum as the kids' Val is, not as it is to be.
	wantPool(t, false, func(p *impl.Pool) { p.Sum[0], p.Val[3] = 5, 5 })
}

// Each list with an entry too few and one too many.
func TestPoolOkLengths(t *testing.T) {
	for _, start := range []impl.Pool{midway(), newPool(t, fourJobs(), 2), allRan(fourJobs(), 2), newPool(t, []impl.Job{job(0)}, 1)} {
		n := len(start.L)
		for _, change := range []func(p *impl.Pool){
			func(p *impl.Pool) { p.Ran = p.Ran[:n-1] },
			func(p *impl.Pool) { p.Done = p.Done[:n-1] },
			func(p *impl.Pool) { p.Left = p.Left[:n-1] },
			func(p *impl.Pool) { p.Sum = p.Sum[:n-1] },
			func(p *impl.Pool) { p.Val = p.Val[:n-1] },
			func(p *impl.Pool) { p.Ran = append(p.Ran, false) },
			func(p *impl.Pool) { p.Done = append(p.Done, false) },
			func(p *impl.Pool) { p.Left = append(p.Left, 0) },
			func(p *impl.Pool) { p.Sum = append(p.Sum, 0) },
			func(p *impl.Pool) { p.Val = append(p.Val, 0) },
			func(p *impl.Pool) { p.Ran = nil },
			func(p *impl.Pool) { p.Done = nil },
			func(p *impl.Pool) { p.Left = nil },
			func(p *impl.Pool) { p.Sum = nil },
			func(p *impl.Pool) { p.Val = nil },
		} {
			wantPool(t, false, func(p *impl.Pool) { *p = poolWith(start, change) })
		}
		wantPool(t, true, func(p *impl.Pool) { *p = start })
	}
}

func TestPoolOkBadPools(t *testing.T) {
	for _, p := range badPools() {
		if impl.PoolOk(p) {
			t.Errorf("a pool: %+v", p)
		}
	}
}

// smallNumbers are what one field of two jobs may be.
func smallNumbers(l ...int) [][]int {
	var out [][]int
	for _, a := range l {
		for _, b := range l {
			out = append(out, []int{a, b})
		}
	}
	return out
}

func bothFlags() [][]bool {
	return [][]bool{{false, false}, {false, true}, {true, false}, {true, true}}
}

// All pools of two jobs with such rows and small numbers; those that are right
// are written out, too.
func TestPoolOkAgainstTheRule(t *testing.T) {
	l := []impl.Job{job(3, 1), job(2)}
	var found []impl.Pool
	for _, rows := range [][][]int{{nil}, {{0}}, {{1}}, {{0, 1}}, {{1, 1}}, {nil, {0}}, {{1}, nil}, {{0}, {0}}, {{1}, {0}}, {{2}}, {{1}, {-1}}} {
		for _, ran := range bothFlags() {
			for _, done := range bothFlags() {
				for _, left := range smallNumbers(-1, 0, 1) {
					for _, sum := range smallNumbers(0, 2, 7) {
						for _, val := range smallNumbers(0, 2, 3, 7) {
							p := impl.Pool{L: l, Dq: rowsOfJobs(rows...), Ran: ran, Done: done, Left: left, Sum: sum, Val: val}
							want := poolByRule(p)
							if got := impl.PoolOk(p); got != want {
								t.Fatalf("whether this is a pool is %v: %+v", got, p)
							}
							if want {
								found = append(found, p)
							}
						}
					}
				}
			}
		}
	}
	want := []impl.Pool{
		poolOf(l, ranOf(2, 0, 1), nil),
		poolOf(l, ranOf(2), []int{0}),
		poolOf(l, ranOf(2, 0), []int{1}),
		poolOf(l, ranOf(2), nil, []int{0}),
		poolOf(l, ranOf(2, 0), []int{1}, nil),
	}
	if !sameValue(found, want) {
		t.Errorf("pools are %+v, want %+v", found, want)
	}
}

// onePoolChange changes one place of a pool.
func onePoolChange(p *impl.Pool, r *rand.Rand) {
	k := r.Intn(len(p.L))
	numbers := append([]int{0, 1, 2, p.L[k].Val, p.L[k].Val + 2*p.Sum[k], p.Left[k] - 1, p.Left[k] + 1}, farInts...)
	n := numbers[r.Intn(len(numbers))]
	row := &p.Dq[r.Intn(len(p.Dq))].L
	switch r.Intn(9) {
	case 0:
		p.L[k].Val = n
	case 1:
		p.Ran[k] = !p.Ran[k]
	case 2:
		p.Done[k] = !p.Done[k]
	case 3:
		p.Left[k] = n
	case 4:
		p.Sum[k] = n
	case 5:
		p.Val[k] = n
	case 6:
		*row = append(*row, k)
	case 7:
		*row = append(*row, n)
	default:
		*row = (*row)[:len(*row)/2]
	}
}

// Pools that are come to, with one change, and with several.
func TestPoolOkChangedAgainstTheRule(t *testing.T) {
	r := rand.New(rand.NewSource(29))
	yes, no := 0, 0
	for range 6000 {
		p := newPool(t, randomTree(r, 1+r.Intn(8)), 1+r.Intn(maxWorkers))
		p, _ = impl.Play(p, randomPicks(r, r.Intn(40), maxWorkers))
		for range 1 + r.Intn(2)*r.Intn(3) {
			onePoolChange(&p, r)
		}
		want := poolByRule(p)
		if got := impl.PoolOk(p); got != want {
			t.Fatalf("whether this is a pool is %v: %+v", got, p)
		}
		if want {
			yes++
		} else {
			no++
		}
	}
	if yes < 500 || no < 2000 {
		t.Errorf("%d pools, and %d that are none", yes, no)
	}
}

func wantAnswer(t *testing.T, p impl.Pool, want int, done bool) {
	t.Helper()
	if got, ok := impl.Answer(p); got != want || ok != done {
		t.Errorf("the answer of %+v is %d, %v, want %d, %v", p, got, ok, want, done)
	}
}

func TestAnswer(t *testing.T) {
	wantAnswer(t, midway(), 0, false)
	wantAnswer(t, newPool(t, fourJobs(), 2), 0, false)
	wantAnswer(t, allRan(fourJobs(), 2), 25, true)
	// All but one, which number 0 waits for.
	wantAnswer(t, poolOf(fourJobs(), ranOf(4, 0, 1, 3), []int{2}), 0, false)
	wantAnswer(t, poolOf(fourJobs(), ranOf(4, 0, 1, 2), []int{3}), 0, false)
	for _, val := range append([]int{0, 7}, farInts...) {
		wantAnswer(t, allRan([]impl.Job{job(val)}, 1), val, true)
	}
	wantAnswer(t, allRan([]impl.Job{job(maxInt, 1), job(maxInt)}, maxWorkers), maxInt-2, true)
	for _, l := range slices.Concat(treesUpTo(5), [][]impl.Job{chain(maxJobs, 3), star(maxJobs, -3)}) {
		wantAnswer(t, newPool(t, l, 1), 0, false)
		wantAnswer(t, allRan(l, 3), impl.Serial(l), true)
	}
}

func TestAnswerRefused(t *testing.T) {
	for _, p := range badPools() {
		wantAnswer(t, p, 0, false)
	}
	// Number 0 has Done, and something else is not as it should be.
	for _, change := range []func(p *impl.Pool){
		func(p *impl.Pool) { p.Val[0]++ },
		func(p *impl.Pool) { p.Left[2] = 1 },
		func(p *impl.Pool) { p.Dq[1].L = []int{2} },
		func(p *impl.Pool) { p.Dq = nil },
		func(p *impl.Pool) { p.Ran[2] = false },
		func(p *impl.Pool) { p.L[0].Kids = nil },
		func(p *impl.Pool) { p.Sum = append(p.Sum, 0) },
		func(p *impl.Pool) { p.Val = p.Val[:3] },
	} {
		wantAnswer(t, poolWith(allRan(fourJobs(), 2), change), 0, false)
	}
}
