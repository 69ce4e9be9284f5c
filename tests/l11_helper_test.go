package tests

import (
	"slices"
	"testing"

	"loop.example/g00713/impl"
)

// maxTries is the most tries that Tickets takes.
const maxTries = 3

// strangeThreads are numbers of threads that a program may not have;
// strangeTries are numbers of tries for which there are no tickets.
var (
	strangeThreads = append([]int{-2, 0, impl.MaxThreads + 1, impl.MaxThreads + 2}, farInts...)
	strangeTries   = append([]int{-2, 0, maxTries + 1, maxTries + 2}, farInts...)
)

// ordersOf are all orders of so many numbers.
func ordersOf(n int) [][]int {
	if n == 0 {
		return [][]int{nil}
	}
	var out [][]int
	for _, order := range ordersOf(n - 1) {
		for at := range n {
			out = append(out, slices.Insert(slices.Clone(order), at, n-1))
		}
	}
	return out
}

// isOrder tells whether a row has each number below n once.
func isOrder(row []int, n int) bool {
	sorted := slices.Sorted(slices.Values(row))
	for k, number := range sorted {
		if number != k {
			return false
		}
	}
	return len(sorted) == n
}

// noOrders are rows that come of an order by one change, and are none of as many
// numbers: one too few, one too many, one twice, below 0, and too large.
func noOrders(order []int) [][]int {
	n := len(order)
	var out [][]int
	for at := range n + 1 {
		for _, number := range append([]int{-2, n, n + 1}, farInts...) {
			out = append(out, slices.Insert(slices.Clone(order), at, number))
			if at < n {
				out = append(out, slices.Replace(slices.Clone(order), at, at+1, number))
			}
		}
		for _, number := range order {
			out = append(out, slices.Insert(slices.Clone(order), at, number))
			if at < n && order[at] != number {
				out = append(out, slices.Replace(slices.Clone(order), at, at+1, number))
			}
		}
		if at < n {
			out = append(out, slices.Delete(slices.Clone(order), at, at+1))
		}
	}
	return out
}

// placeIn is where a number stands in an order.
func placeIn(order []int, number int) int {
	return slices.Index(order, number)
}

// wayBack is the order that brings back what an order has turned.
func wayBack(order []int) []int {
	var out []int
	for number := range order {
		out = append(out, placeIn(order, number))
	}
	return out
}

// threadsByRule is what TurnThreads is to answer; it looks where each thread goes.
func threadsByRule(p impl.Prog, order []int) (impl.Prog, bool) {
	if !impl.ProgOk(p) || !isOrder(order, len(p.T)) {
		return impl.Prog{}, false
	}
	out := copyProg(p)
	for k, thread := range copyProg(p).T {
		out.T[placeIn(order, k)] = thread
	}
	return out, true
}

// cellsByRule is what TurnCells is to answer; it looks which cell each one was.
func cellsByRule(p impl.Prog, order []int) (impl.Prog, bool) {
	if !impl.ProgOk(p) || !isOrder(order, len(p.Init)) {
		return impl.Prog{}, false
	}
	out := copyProg(p)
	for x := range out.Init {
		out.Init[x] = p.Init[placeIn(order, x)]
	}
	for _, thread := range out.T {
		for at, i := range thread.L {
			switch usedFields[i.Op] {
			case "RX", "AX", "RABX":
				thread.L[at].X = order[i.X]
			case "RAXN", "ABXN":
				if i.N != 1 {
					return impl.Prog{}, false
				}
				thread.L[at].X = order[i.X]
			}
		}
	}
	return out, true
}

// outcomeByRule is what TurnOutcome is to answer.
func outcomeByRule(o impl.Outcome, order []int) impl.Outcome {
	if !isOrder(order, len(order)) || len(o.R) != impl.Regs*len(order) {
		return impl.Outcome{}
	}
	out := outcome()
	for at := range o.R {
		out.R = append(out.R, o.R[order[at/impl.Regs]*impl.Regs+at%impl.Regs])
	}
	return out
}

// oneCellEach is a program of which no instruction is about several cells.
func oneCellEach(p impl.Prog) impl.Prog {
	out := copyProg(p)
	for _, thread := range out.T {
		for at, i := range thread.L {
			if i.Op == impl.InLoadAt || i.Op == impl.InStoreAt {
				thread.L[at].N = 1
			}
		}
	}
	return out
}

func wantThreads(t *testing.T, p impl.Prog, order []int, want impl.Prog) {
	t.Helper()
	if got, ok := impl.TurnThreads(p, order); !ok || !sameValue(got, want) {
		t.Errorf("%+v with its threads turned by %v is %+v, %v, want %+v", p, order, got, ok, want)
	}
}

func refusesThreads(t *testing.T, p impl.Prog, order ...int) {
	t.Helper()
	if got, ok := impl.TurnThreads(p, order); ok || !sameValue(got, impl.Prog{}) {
		t.Errorf("%+v with its threads turned by %v is %+v, %v", p, order, got, ok)
	}
}

// checkThreads holds what TurnThreads answers against the rule, and tells
// whether it turns the program.
func checkThreads(t *testing.T, p impl.Prog, order []int) bool {
	t.Helper()
	want, ok := threadsByRule(p, order)
	if ok {
		wantThreads(t, p, order, want)
	} else {
		refusesThreads(t, p, order...)
	}
	return ok
}

func wantCells(t *testing.T, p impl.Prog, order []int, want impl.Prog) {
	t.Helper()
	if got, ok := impl.TurnCells(p, order); !ok || !sameValue(got, want) {
		t.Errorf("%+v with its cells turned by %v is %+v, %v, want %+v", p, order, got, ok, want)
	}
}

func refusesCells(t *testing.T, p impl.Prog, order ...int) {
	t.Helper()
	if got, ok := impl.TurnCells(p, order); ok || !sameValue(got, impl.Prog{}) {
		t.Errorf("%+v with its cells turned by %v is %+v, %v", p, order, got, ok)
	}
}

// checkCells is the same for TurnCells.
func checkCells(t *testing.T, p impl.Prog, order []int) bool {
	t.Helper()
	want, ok := cellsByRule(p, order)
	if ok {
		wantCells(t, p, order, want)
	} else {
		refusesCells(t, p, order...)
	}
	return ok
}

func wantOutcome(t *testing.T, o impl.Outcome, order []int, want ...int) {
	t.Helper()
	if got := impl.TurnOutcome(o, order); !sameValue(got, outcome(want...)) {
		t.Errorf("%v turned by %v is %v, want %v", o, order, got, want)
	}
}

func wantInside(t *testing.T, want int, numbers ...int) {
	t.Helper()
	if got := impl.Inside(outcome(numbers...)); got != want {
		t.Errorf("of %v %d are inside, want %d", numbers, got, want)
	}
}

func wantAlike(t *testing.T, want bool, r int, numbers ...int) {
	t.Helper()
	if got := impl.Alike(outcome(numbers...), r); got != want {
		t.Errorf("whether two of %v are alike in register %d is %v", numbers, r, got)
	}
}

// takeTicket is what is done with a number that one has got.
var takeTicket = impl.Ins{Op: impl.InMov, R: 0, A: 2}

// dekkerByHand is the program that Dekker is to make.
func dekkerByHand(fence bool) impl.Prog {
	if fence {
		return progOf([]int{0, 0},
			row(insSet(1, 1), insStore(0, 1), insFence, insLoad(2, 1), insSame(0, 2, 3)),
			row(insSet(1, 1), insStore(1, 1), insFence, insLoad(2, 0), insSame(0, 2, 3)))
	}
	return progOf([]int{0, 0},
		row(insSet(1, 1), insStore(0, 1), insLoad(2, 1), insSame(0, 2, 3)),
		row(insSet(1, 1), insStore(1, 1), insLoad(2, 0), insSame(0, 2, 3)))
}

// swapByHand is the program that SwapLock is to make.
func swapByHand(n int) impl.Prog {
	threads := []impl.Thread{
		row(insSet(1, 1), insCas(0, 0, 2, 1)),
		row(insSet(1, 2), insCas(0, 0, 2, 1)),
		row(insSet(1, 3), insCas(0, 0, 2, 1)),
	}
	return progOf([]int{0}, threads[:n]...)
}

// triesByHand has each number as it is counted by hand.
func triesByHand(tries int) impl.Thread {
	switch tries {
	case 1:
		return row(
			insLoad(2, 0), insSet(3, 1), insAdd(3, 2, 3), insCas(4, 0, 2, 3), // 0 .. 3
			insZero(4, 7), takeTicket, insJump(7), // 4 .. 6
		)
	case 2:
		return row(
			insLoad(2, 0), insSet(3, 1), insAdd(3, 2, 3), insCas(4, 0, 2, 3), // 0 .. 3
			insZero(4, 7), takeTicket, insJump(14), // 4 .. 6
			insLoad(2, 0), insSet(3, 1), insAdd(3, 2, 3), insCas(4, 0, 2, 3), // 7 .. 10
			insZero(4, 14), takeTicket, insJump(14), // 11 .. 13
		)
	default:
		return row(
			insLoad(2, 0), insSet(3, 1), insAdd(3, 2, 3), insCas(4, 0, 2, 3), // 0 .. 3
			insZero(4, 7), takeTicket, insJump(21), // 4 .. 6
			insLoad(2, 0), insSet(3, 1), insAdd(3, 2, 3), insCas(4, 0, 2, 3), // 7 .. 10
			insZero(4, 14), takeTicket, insJump(21), // 11 .. 13
			insLoad(2, 0), insSet(3, 1), insAdd(3, 2, 3), insCas(4, 0, 2, 3), // 14 .. 17
			insZero(4, 21), takeTicket, insJump(21), // 18 .. 20
		)
	}
}

// ticketsByHand is the program that Tickets is to make.
func ticketsByHand(n int, tries int) impl.Prog {
	p := progOf([]int{1})
	for range n {
		p.T = append(p.T, triesByHand(tries))
	}
	return p
}

func swapLock(t *testing.T, n int) impl.Prog {
	t.Helper()
	p, ok := impl.SwapLock(n)
	if !ok {
		t.Fatalf("no lock for %d threads", n)
	}
	return p
}

func tickets(t *testing.T, n int, tries int) impl.Prog {
	t.Helper()
	p, ok := impl.Tickets(n, tries)
	if !ok {
		t.Fatalf("no tickets for %d threads with %d tries", n, tries)
	}
	return p
}

// outcomesOf are all that Outcomes tells of a program that is small enough.
func outcomesOf(t *testing.T, p impl.Prog, kind int) []impl.Outcome {
	t.Helper()
	l, ok := impl.Outcomes(p, kind, maxStates)
	if !ok || len(l) == 0 {
		t.Fatalf("kind %d: the outcomes of %+v are %v, %v", kind, p, l, ok)
	}
	return l
}

// lockProgs are all programs that the chapter makes.
func lockProgs() []impl.Prog {
	out := []impl.Prog{dekkerByHand(false), dekkerByHand(true)}
	for n := 1; n <= impl.MaxThreads; n++ {
		out = append(out, swapByHand(n))
		for tries := 1; tries <= maxTries; tries++ {
			out = append(out, ticketsByHand(n, tries))
		}
	}
	return out
}
