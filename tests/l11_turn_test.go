package tests

import (
	"math/rand"
	"slices"
	"testing"

	"loop.example/g00713/impl"
)

// eachRow goes through all rows of at most n of these numbers.
func eachRow(n int, numbers []int, row []int, f func(row []int)) {
	f(row)
	if n == 0 {
		return
	}
	for _, number := range numbers {
		eachRow(n-1, numbers, append(slices.Clone(row), number), f)
	}
}

// turnedProgs are programs of all sizes that each can be turned by some order of
// cells.
func turnedProgs() []impl.Prog {
	r := rand.New(rand.NewSource(11))
	out := slices.Concat(goodProgs(), lockProgs(), walkedProgs(), []impl.Prog{crossed(), crossed(insFence)})
	for range 300 {
		out = append(out, randomProg(r))
	}
	for k, p := range out {
		out[k] = oneCellEach(p)
	}
	return out
}

func TestTurnThreadsWrittenOut(t *testing.T) {
	a, b, c := row(insSet(1, 1), insStore(0, 1)), row(), row(insLoad(2, 1))
	init := []int{7, -8}
	wantThreads(t, progOf(init, a), []int{0}, progOf(init, a))
	wantThreads(t, progOf(init, b), []int{0}, progOf(init, b))
	wantThreads(t, progOf(init, a, b), []int{0, 1}, progOf(init, a, b))
	wantThreads(t, progOf(init, a, b), []int{1, 0}, progOf(init, b, a))
	wantThreads(t, progOf(init, a, b, c), []int{0, 1, 2}, progOf(init, a, b, c))
	wantThreads(t, progOf(init, a, b, c), []int{0, 2, 1}, progOf(init, a, c, b))
	wantThreads(t, progOf(init, a, b, c), []int{1, 0, 2}, progOf(init, b, a, c))
	wantThreads(t, progOf(init, a, b, c), []int{2, 1, 0}, progOf(init, c, b, a))
	// Those that are not their own way back.
	wantThreads(t, progOf(init, a, b, c), []int{1, 2, 0}, progOf(init, b, c, a))
	wantThreads(t, progOf(init, a, b, c), []int{2, 0, 1}, progOf(init, c, a, b))
}

func TestTurnThreadsAllOrders(t *testing.T) {
	for _, p := range append(turnedProgs(), sample()) {
		for _, order := range ordersOf(len(p.T)) {
			if !checkThreads(t, p, order) {
				t.Errorf("%v is no order of %d threads", order, len(p.T))
			}
		}
	}
}

func TestTurnThreadsRefusesOrders(t *testing.T) {
	for threads := 1; threads <= impl.MaxThreads; threads++ {
		p := progOf([]int{1, 2}, slices.Repeat([]impl.Thread{row(insFence)}, threads)...)
		for _, order := range ordersOf(threads) {
			for _, none := range noOrders(order) {
				refusesThreads(t, p, none...)
			}
		}
		refusesThreads(t, p)
		orders := 0
		eachRow(4, append([]int{0, 1, 2, 3}, farInts...), nil, func(order []int) {
			if checkThreads(t, p, order) {
				orders++
			}
		})
		if orders != len(ordersOf(threads)) {
			t.Errorf("%d rows are orders of %d threads", orders, threads)
		}
	}
}

func TestTurnThreadsRefusesProgs(t *testing.T) {
	for _, p := range append(badProgs(), impl.Prog{Init: []int{1}, T: []impl.Thread{{L: ins(insLoad(0, 1))}, {}}}) {
		for threads := range impl.MaxThreads + 2 {
			for _, order := range ordersOf(threads) {
				refusesThreads(t, p, order...)
			}
		}
	}
	for _, p := range oddProgs() {
		for _, order := range ordersOf(len(p.T)) {
			checkThreads(t, p, order)
		}
	}
}

func TestTurnCellsWrittenOut(t *testing.T) {
	p := progOf([]int{7, 8, 9},
		row(insLoad(5, 0), insStore(1, 4), insCas(3, 2, 1, 0), insFence),
		row(insLoadAt(1, 1, 2, 1), insStoreAt(2, 3, 1, 4), insSet(0, 2), insZero(1, 4), insJump(5)))
	wantCells(t, p, []int{0, 1, 2}, p)
	// Cell 0 is cell 1 then, and so on.
	wantCells(t, p, []int{1, 2, 0}, progOf([]int{9, 7, 8},
		row(insLoad(5, 1), insStore(2, 4), insCas(3, 0, 1, 0), insFence),
		row(insLoadAt(1, 2, 2, 1), insStoreAt(0, 3, 1, 4), insSet(0, 2), insZero(1, 4), insJump(5))))
	wantCells(t, p, []int{2, 0, 1}, progOf([]int{8, 9, 7},
		row(insLoad(5, 2), insStore(0, 4), insCas(3, 1, 1, 0), insFence),
		row(insLoadAt(1, 0, 2, 1), insStoreAt(1, 3, 1, 4), insSet(0, 2), insZero(1, 4), insJump(5))))
	wantCells(t, p, []int{0, 2, 1}, progOf([]int{7, 9, 8},
		row(insLoad(5, 0), insStore(2, 4), insCas(3, 1, 1, 0), insFence),
		row(insLoadAt(1, 2, 2, 1), insStoreAt(1, 3, 1, 4), insSet(0, 2), insZero(1, 4), insJump(5))))
	wantCells(t, progOf([]int{5}, row(), row(insStore(0, 3))), []int{0}, progOf([]int{5}, row(), row(insStore(0, 3))))
	wantCells(t, progOf([]int{1, 2, 3, 4, 5, 6}, row(insLoad(0, 3))), []int{2, 3, 4, 5, 0, 1}, progOf([]int{5, 6, 1, 2, 3, 4}, row(insLoad(0, 5))))
	wantCells(t, progOf([]int{1, 2, 3, 4, 5, 6}, row(insLoad(0, 4))), []int{2, 3, 4, 5, 0, 1}, progOf([]int{5, 6, 1, 2, 3, 4}, row(insLoad(0, 0))))
}

// Each Op that is about memory, at each cell; those that are not stay as they are.
func TestTurnCellsEachOp(t *testing.T) {
	init := []int{10, 20, 30, 40}
	for op := impl.InSet; op <= impl.InJump; op++ {
		for x := range init {
			i := full(op)
			if op == impl.InLoadAt || op == impl.InStoreAt {
				i.N = 1
			}
			memory := impl.Touches(i, i.X) != 0
			if memory {
				i.X = x
			}
			l := ins(insFence, i, insFence)
			for _, order := range ordersOf(len(init)) {
				want := slices.Clone(l)
				if memory {
					want[1].X = order[x]
				}
				got, ok := impl.TurnCells(progOf(init, row(l...), row(l...)), order)
				if !ok || !sameValue(got.T, []impl.Thread{row(want...), row(want...)}) {
					t.Errorf("%+v with its cells turned by %v is %+v, %v, want %+v", l, order, got, ok, want)
				}
			}
		}
	}
}

func TestTurnCellsAllOrders(t *testing.T) {
	r := rand.New(rand.NewSource(21))
	for _, p := range turnedProgs() {
		orders := ordersOf(min(len(p.Init), 4))
		if len(p.Init) > 4 {
			orders = [][]int{r.Perm(len(p.Init)), r.Perm(len(p.Init)), r.Perm(len(p.Init))}
		}
		for _, order := range orders {
			if !checkCells(t, p, order) {
				t.Errorf("%v is no order of the cells of %+v", order, p)
			}
		}
	}
	p := progOf([]int{1, 2, 3, 4, 5, 6}, row(insLoad(0, 0), insLoad(0, 1), insStore(2, 1), insStore(3, 2), insCas(1, 4, 3, 2), insLoadAt(1, 5, 2, 1)))
	for _, order := range ordersOf(impl.MaxCells) {
		checkCells(t, p, order)
	}
}

func TestTurnCellsRefusesOrders(t *testing.T) {
	for cells := 1; cells <= impl.MaxCells; cells++ {
		p := progOf(make([]int, cells), row(insLoad(0, cells-1)), row(insFence))
		r := rand.New(rand.NewSource(31))
		for range 20 {
			for _, none := range noOrders(r.Perm(cells)) {
				refusesCells(t, p, none...)
			}
		}
		refusesCells(t, p)
		if cells > impl.MaxThreads {
			continue
		}
		orders := 0
		eachRow(4, append([]int{0, 1, 2, 3}, farInts...), nil, func(order []int) {
			if checkCells(t, p, order) {
				orders++
			}
		})
		if orders != len(ordersOf(cells)) {
			t.Errorf("%d rows are orders of %d cells", orders, cells)
		}
	}
}

// An order of cells is held against the cells, one of threads against threads.
func TestTurnByTheOthersOrder(t *testing.T) {
	cells := progOf([]int{1, 2, 3}, row(), row())
	threads := progOf([]int{1, 2}, row(), row(), row())
	refusesThreads(t, cells, 0, 1, 2)
	refusesCells(t, cells, 0, 1)
	refusesThreads(t, threads, 0, 1)
	refusesCells(t, threads, 0, 1, 2)
	wantThreads(t, cells, []int{1, 0}, cells)
	wantCells(t, threads, []int{1, 0}, progOf([]int{2, 1}, row(), row(), row()))
}

// Which of several cells is meant is told only when the instruction is done; one
// such instruction is enough to refuse, wherever it stands.
func TestTurnCellsOfSeveral(t *testing.T) {
	for cells := 1; cells <= impl.MaxCells; cells++ {
		for n := 1; n <= cells; n++ {
			for x := 0; x <= cells-n; x++ {
				for _, i := range ins(insLoadAt(1, x, 2, n), insStoreAt(x, 2, n, 1)) {
					for _, order := range [][]int{firstNumbers(cells), rand.New(rand.NewSource(1)).Perm(cells)} {
						first := progOf(make([]int, cells), row(i, insLoad(0, 0)), row(insFence))
						last := progOf(make([]int, cells), row(insFence), row(), row(insLoadAt(0, 0, 0, 1), i))
						if got := checkCells(t, first, order); got != (n == 1) {
							t.Errorf("whether %+v is turned by %v is %v", first, order, got)
						}
						if got := checkCells(t, last, order); got != (n == 1) {
							t.Errorf("whether %+v is turned by %v is %v", last, order, got)
						}
					}
				}
			}
		}
	}
	for _, n := range append([]int{-2, 0, 7}, farInts...) {
		refusesCells(t, progOf([]int{1, 2, 3, 4, 5, 6}, row(insLoadAt(0, 0, 0, n))), 0, 1, 2, 3, 4, 5)
		refusesCells(t, progOf([]int{1}, row(insStoreAt(0, 0, n, 0))), 0)
	}
	// The threads don't mind.
	wide := progOf([]int{1, 2}, row(insLoadAt(0, 0, 0, 2)), row())
	wantThreads(t, wide, []int{1, 0}, progOf([]int{1, 2}, row(), row(insLoadAt(0, 0, 0, 2))))
}

// An instruction that is not about memory has no X, so one with an X is none.
func TestTurnStrangeX(t *testing.T) {
	for op := impl.InSet; op <= impl.InJump; op++ {
		for _, x := range append([]int{1, 2, 4, 5}, farInts...) {
			i := set(full(op), 'X', x)
			p := progOf([]int{1, 2, 3, 4}, row(insFence, i, insFence), row())
			if impl.ProgOk(p) {
				continue
			}
			for _, order := range ordersOf(4) {
				refusesCells(t, p, order...)
			}
			refusesThreads(t, p, 0, 1)
			refusesThreads(t, p, 1, 0)
		}
	}
}

func TestTurnCellsRefusesProgs(t *testing.T) {
	for _, p := range append(badProgs(), impl.Prog{Init: []int{1}, T: []impl.Thread{{L: ins(insLoad(0, 1))}, {}}}) {
		for cells := range 5 {
			for _, order := range ordersOf(cells) {
				refusesCells(t, p, order...)
			}
		}
		refusesCells(t, p, firstNumbers(len(p.Init))...)
	}
	for _, p := range oddProgs() {
		checkCells(t, p, firstNumbers(len(p.Init)))
	}
	for _, i := range manyIns() {
		p := progOf([]int{5, 6, 7}, row(insFence, i, insFence))
		checkCells(t, p, []int{2, 0, 1})
		checkThreads(t, p, []int{0})
	}
}

func TestTurnOutcomeWrittenOut(t *testing.T) {
	a, b, c := []int{1, 2, 3, 4, 5, 6}, []int{-1, 0, 0, 0, 0, -6}, []int{maxInt, minInt, 7, 8, 9, 10}
	two, three := outcome(slices.Concat(a, b)...), outcome(slices.Concat(a, b, c)...)
	wantOutcome(t, outcome(a...), []int{0}, a...)
	wantOutcome(t, two, []int{0, 1}, slices.Concat(a, b)...)
	wantOutcome(t, two, []int{1, 0}, slices.Concat(b, a)...)
	wantOutcome(t, three, []int{0, 1, 2}, slices.Concat(a, b, c)...)
	wantOutcome(t, three, []int{2, 1, 0}, slices.Concat(c, b, a)...)
	wantOutcome(t, three, []int{1, 2, 0}, slices.Concat(b, c, a)...)
	wantOutcome(t, three, []int{2, 0, 1}, slices.Concat(c, a, b)...)
	// Of nobody there is nothing.
	wantOutcome(t, outcome(), nil)
	wantOutcome(t, outcome(), []int{})
	wantOutcome(t, outcome(1), nil)
	wantOutcome(t, outcome(a...), []int{})
}

func countedOutcome(n int) impl.Outcome {
	o := outcome()
	for at := range n {
		o.R = append(o.R, 100+at)
	}
	return o
}

func TestTurnOutcomeLengths(t *testing.T) {
	for threads := range 6 {
		for _, order := range ordersOf(threads) {
			for _, n := range []int{0, 1, 5, 6, 7, 6*threads - 6, 6*threads - 1, 6 * threads, 6*threads + 1, 6*threads + 6} {
				if n < 0 {
					continue
				}
				o := countedOutcome(n)
				want := outcomeByRule(o, order)
				wantOutcome(t, o, order, want.R...)
				if full := n == 6*threads && n > 0; full != (len(want.R) > 0) {
					t.Errorf("%v turned by %v is %v", o, order, want)
				}
			}
		}
	}
}

func TestTurnOutcomeRefusesOrders(t *testing.T) {
	for threads := range 5 {
		for _, order := range ordersOf(threads) {
			for _, none := range noOrders(order) {
				// An order of one thread less or more is none of these threads.
				wantOutcome(t, countedOutcome(6*threads), none)
				if !isOrder(none, len(none)) {
					wantOutcome(t, countedOutcome(6*len(none)), none)
				}
			}
		}
	}
	eachRow(4, append([]int{0, 1, 2, 3}, farInts...), nil, func(order []int) {
		o := countedOutcome(6 * len(order))
		wantOutcome(t, o, order, outcomeByRule(o, order).R...)
	})
}

// There may be more threads than a program has.
func TestTurnOutcomeOfMany(t *testing.T) {
	r := rand.New(rand.NewSource(41))
	for _, n := range []int{4, 7, 50, 1000} {
		o, order := countedOutcome(6*n), r.Perm(n)
		wantOutcome(t, o, order, outcomeByRule(o, order).R...)
		order[n/2] = order[0]
		wantOutcome(t, o, order)
	}
	const n = 200000
	o, order := countedOutcome(6*n), r.Perm(n)
	if got := impl.TurnOutcome(o, order); !slices.Equal(got.R, outcomeByRule(o, order).R) {
		t.Errorf("an outcome of %d threads is turned into one of %d registers", n, len(got.R))
	}
}

// Who turns, and then turns by the way back, has what there was.
func TestTurnThereAndBack(t *testing.T) {
	r := rand.New(rand.NewSource(51))
	for _, p := range turnedProgs() {
		cells, threads := r.Perm(len(p.Init)), r.Perm(len(p.T))
		there, _ := impl.TurnThreads(p, threads)
		wantThreads(t, there, wayBack(threads), p)
		there, _ = impl.TurnCells(p, cells)
		wantCells(t, there, wayBack(cells), p)
		o := countedOutcome(6 * len(p.T))
		wantOutcome(t, impl.TurnOutcome(o, threads), wayBack(threads), o.R...)
	}
}

// Whether threads or cells are turned first makes no difference.
func TestTurnBoth(t *testing.T) {
	r := rand.New(rand.NewSource(61))
	for _, p := range turnedProgs() {
		cells, threads := r.Perm(len(p.Init)), r.Perm(len(p.T))
		first, _ := impl.TurnThreads(p, threads)
		both, ok := impl.TurnCells(first, cells)
		second, _ := impl.TurnCells(p, cells)
		wantThreads(t, second, threads, both)
		if !ok || !impl.ProgOk(both) {
			t.Errorf("%+v turned by %v and %v is %+v, %v", p, threads, cells, both, ok)
		}
	}
}
