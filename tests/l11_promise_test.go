package tests

import (
	"fmt"
	"math/rand"
	"slices"
	"testing"

	"loop.example/g00713/impl"
)

// turnedOutcomes are outcomes turned by an order, the least first.
func turnedOutcomes(l []impl.Outcome, order []int) []impl.Outcome {
	var out []impl.Outcome
	for _, o := range l {
		out = append(out, impl.TurnOutcome(o, order))
	}
	slices.SortFunc(out, func(a impl.Outcome, b impl.Outcome) int { return slices.Compare(a.R, b.R) })
	return out
}

// mirroredProgs are programs all of whose outcomes are told.
func mirroredProgs() []impl.Prog {
	return slices.Concat(lockProgs(), searchedProgs(), storingProgs(20), []impl.Prog{crossed(), crossed(insFence), rounds(2), threeLoads()})
}

// turner is TurnThreads or TurnCells.
type turner func(p impl.Prog, order []int) (impl.Prog, bool)

// wantMirrored holds what may come of a program turned by each order of so many
// against what may come of itself, as an order turns that.
func wantMirrored(t *testing.T, p impl.Prog, n int, turn turner, turned func(l []impl.Outcome, order []int) []impl.Outcome) {
	t.Helper()
	for _, kind := range kinds {
		l := outcomesOf(t, p, kind)
		states, _ := impl.States(p, kind, maxStates)
		for _, order := range ordersOf(n) {
			q, ok := turn(p, order)
			if !ok {
				t.Fatalf("%+v is not turned by %v", p, order)
			}
			wantOutcomes(t, q, kind, maxStates, turned(l, order)...)
			wantStates(t, q, kind, states)
		}
	}
}

// Promise 11: threads in another order make no difference but that order.
func TestThreadsInAnotherOrder(t *testing.T) {
	for _, p := range mirroredProgs() {
		wantMirrored(t, p, len(p.T), impl.TurnThreads, turnedOutcomes)
	}
}

// Promise 11: cells in another order make no difference at all.
func TestCellsInAnotherOrder(t *testing.T) {
	several := 0
	for _, p := range mirroredProgs() {
		if len(p.Init) > 1 {
			several++
		}
		wantMirrored(t, oneCellEach(p), len(p.Init), impl.TurnCells, func(l []impl.Outcome, order []int) []impl.Outcome { return l })
	}
	if several < 50 {
		t.Errorf("only %d programs have several cells", several)
	}
}

// Promise 11, of what may come of a program, and of its fences.
func TestMirroredFences(t *testing.T) {
	for _, p := range slices.Concat(storingProgs(15), []impl.Prog{crossed(), rounds(2), dekkerByHand(false), dekkerByHand(true)}) {
		robust, _ := impl.Robust(p, maxStates)
		least, found := impl.LeastFences(p, maxStates)
		for _, order := range ordersOf(len(p.T)) {
			turned, _ := impl.TurnThreads(p, order)
			wantRobust(t, robust, turned, maxStates)
			if l, ok := impl.LeastFences(turned, maxStates); ok != found || len(l) != len(least) {
				t.Errorf("the fences of %+v are %v, %v, of its threads turned by %v %v, %v", p, least, found, order, l, ok)
			}
		}
		for _, order := range ordersOf(len(p.Init)) {
			turned, ok := impl.TurnCells(p, order)
			if !ok {
				continue
			}
			wantSpots(t, turned, impl.Spots(p)...)
			wantRobust(t, robust, turned, maxStates)
			if found {
				wantLeast(t, turned, maxStates, least...)
			} else {
				refusesLeast(t, turned, maxStates)
			}
		}
	}
}

// A program and its mirror are asked for the same of the same threads.
func TestMirroredConds(t *testing.T) {
	for _, x := range asked() {
		for _, order := range ordersOf(len(x.p.T)) {
			var c []impl.Cond
			for _, one := range x.c {
				c = append(c, cond(placeIn(order, one.T), one.R, one.Val))
			}
			turned, _ := impl.TurnThreads(x.p, order)
			for _, kind := range kinds {
				if impl.May(turned, kind, maxStates, c) != x.may[kind] {
					t.Errorf("kind %d: whether %v may come of %+v is %v", kind, c, turned, !x.may[kind])
				}
			}
		}
	}
}

// pair is an outcome of Dekker by what the threads have loaded.
func pair(a int, b int) impl.Outcome {
	return outcome(1-a, 1, a, 0, 0, 0, 1-b, 1, b, 0, 0, 0)
}

func mostInside(l []impl.Outcome) int {
	most := 0
	for _, o := range l {
		most = max(most, impl.Inside(o))
	}
	return most
}

// Promise 11: with fences never two are inside; where each write is seen at once
// neither without.
func TestDekkerOutcomes(t *testing.T) {
	for _, kind := range kinds {
		for _, fence := range []bool{false, true} {
			p := impl.Dekker(fence)
			want, most := []impl.Outcome{pair(1, 1), pair(1, 0), pair(0, 1)}, 1
			if kind != impl.KdOne && !fence {
				want, most = append(want, pair(0, 0)), 2
			}
			wantOutcomes(t, p, kind, maxStates, want...)
			if got := mostInside(outcomesOf(t, p, kind)); got != most {
				t.Errorf("kind %d, with fences %v: %d are inside", kind, fence, got)
			}
			if may := impl.May(p, kind, maxStates, []impl.Cond{cond(0, 0, 1), cond(1, 0, 1)}); may != (most == 2) {
				t.Errorf("kind %d, with fences %v: whether both may be inside is %v", kind, fence, may)
			}
		}
	}
}

// The fences of Dekker are those that it needs.
func TestDekkerFences(t *testing.T) {
	open, shut := impl.Dekker(false), impl.Dekker(true)
	wantRobust(t, false, open, maxStates)
	wantRobust(t, true, shut, maxStates)
	wantLeast(t, open, maxStates, spot(0, 2), spot(1, 2))
	wantLeast(t, shut, maxStates)
	wantFenced(t, open, []impl.Spot{spot(0, 2), spot(1, 2)}, shut.T...)
	// Its mirror is itself.
	for _, p := range []impl.Prog{open, shut} {
		turned, _ := impl.TurnThreads(p, []int{1, 0})
		wantCells(t, turned, []int{1, 0}, p)
	}
}

// Promise 11: of those who swap just one is inside, and each may be.
func TestSwapLockOutcomes(t *testing.T) {
	for n := 1; n <= impl.MaxThreads; n++ {
		for _, kind := range kinds {
			l := outcomesOf(t, swapLock(t, n), kind)
			in := map[int]bool{}
			for _, o := range l {
				for k := range n {
					if o.R[6*k] == 1 {
						in[k] = true
					}
				}
				if impl.Inside(o) != 1 || impl.Alike(o, 0) {
					t.Errorf("kind %d: of %d who swap comes %v", kind, n, o)
				}
			}
			if len(in) != n || len(l) != n {
				t.Errorf("kind %d: of %d who swap comes %v", kind, n, l)
			}
		}
	}
	three := []impl.Outcome{
		outcome(0, 1, 0, 0, 0, 0, 0, 2, 0, 0, 0, 0, 1, 3, 0, 0, 0, 0),
		outcome(0, 1, 0, 0, 0, 0, 1, 2, 0, 0, 0, 0, 0, 3, 0, 0, 0, 0),
		outcome(1, 1, 0, 0, 0, 0, 0, 2, 0, 0, 0, 0, 0, 3, 0, 0, 0, 0),
	}
	for _, kind := range kinds {
		wantOutcomes(t, swapLock(t, 3), kind, maxStates, three...)
	}
}

// ticketsOf are the tickets that threads have got, the least first.
func ticketsOf(o impl.Outcome) []int {
	var out []int
	for at := 0; at < len(o.R); at += impl.Regs {
		if o.R[at] != 0 {
			out = append(out, o.R[at])
		}
	}
	return slices.Sorted(slices.Values(out))
}

// wantTickets holds an outcome against who gets in: no two have the same ticket,
// none is left out, and who has as many tries as there are threads gets one.
func wantTickets(t *testing.T, n int, tries int, o impl.Outcome) {
	t.Helper()
	got := ticketsOf(o)
	if impl.Alike(o, 0) || impl.Inside(o) != len(got) || len(got) < min(n, tries) {
		t.Errorf("of %d threads with %d tries comes %v", n, tries, o)
	}
	for k, ticket := range got {
		if ticket != k+1 {
			t.Errorf("of %d threads with %d tries the tickets are %v", n, tries, got)
		}
	}
}

// Promise 11: no two have the same ticket.
func TestTicketsOutcomes(t *testing.T) {
	for n := 1; n <= impl.MaxThreads; n++ {
		for tries := 1; tries <= maxTries; tries++ {
			t.Run(fmt.Sprint(n, tries), func(t *testing.T) {
				t.Parallel()
				for _, kind := range kinds {
					rows, least := map[string]bool{}, n
					for _, o := range outcomesOf(t, tickets(t, n, tries), kind) {
						wantTickets(t, n, tries, o)
						least = min(least, impl.Inside(o))
						if impl.Inside(o) == n {
							rows[fmt.Sprint(o.R[0], o.R[6*(n-1)])] = true
						}
					}
					// Each order in which they get in may come about, and with few tries
					// some get in no more.
					if want := len(ordersOf(n)); len(rows) != want || least != min(n, tries) {
						t.Errorf("kind %d: of %d threads with %d tries %d may get in, or all in %d ways", kind, n, tries, least, len(rows))
					}
				}
			})
		}
	}
}

// A thread alone gets the first ticket; the cell is left with the next one.
func TestTicketsCell(t *testing.T) {
	r := rand.New(rand.NewSource(71))
	for n := 1; n <= impl.MaxThreads; n++ {
		for tries := 1; tries <= maxTries; tries++ {
			p := tickets(t, n, tries)
			for _, kind := range kinds {
				for range 20 {
					picks, s := runToEnd(t, p, kind, r)
					o := outcome(registersOf(s)...)
					if cells := cellsOf(s); !sameValue(cells, []int{1 + impl.Inside(o)}) {
						t.Errorf("kind %d: %v leads %d threads with %d tries to %v and %v", kind, picks, n, tries, o, cells)
					}
				}
			}
			if n == 1 {
				wantOutcomes(t, p, impl.KdView, maxStates, outcome(1, 0, 1, 2, 1, 0))
			}
		}
	}
}

// lockCase is what the functions of the chapter are asked.
type lockCase struct {
	P       impl.Prog
	Threads []int
	Cells   []int
	O       impl.Outcome
	N       int
	Tries   int
}

// lockAnswer is what they answer.
type lockAnswer struct {
	Threads   impl.Prog
	ThreadsOk bool
	Cells     impl.Prog
	CellsOk   bool
	Outcome   impl.Outcome
	Open      impl.Prog
	Shut      impl.Prog
	Swap      impl.Prog
	SwapOk    bool
	Tickets   impl.Prog
	TicketsOk bool
	Inside    int
	Alike     bool
}

func lockCases() []lockCase {
	r := rand.New(rand.NewSource(81))
	var out []lockCase
	for k, p := range slices.Concat(lockProgs(), answeredProgs(), badProgs(), oddProgs(), []impl.Prog{sample(), oneCellEach(sample())}) {
		c := lockCase{P: p, Threads: r.Perm(len(p.T)), Cells: r.Perm(len(p.Init)), N: k % 5, Tries: k / 5 % 5}
		c.O = countedOutcome(6 * len(p.T))
		out = append(out, c)
		if len(p.T) > 0 {
			c.Threads = append(c.Threads[1:len(c.Threads):len(c.Threads)], c.Threads[0]+k%2)
			out = append(out, c)
		}
		if len(p.Init) > 0 {
			c.Cells, c.O = append(c.Cells[1:len(c.Cells):len(c.Cells)], maxInt), outcome(4, 4, 4, 4, 4, 4, 4, 4, 4, 4)
			out = append(out, c)
		}
	}
	return out
}

func lockAnswers(c lockCase) lockAnswer {
	a := lockAnswer{Outcome: impl.TurnOutcome(c.O, c.Threads), Open: impl.Dekker(false), Shut: impl.Dekker(true)}
	a.Threads, a.ThreadsOk = impl.TurnThreads(c.P, c.Threads)
	a.Cells, a.CellsOk = impl.TurnCells(c.P, c.Cells)
	a.Swap, a.SwapOk = impl.SwapLock(c.N)
	a.Tickets, a.TicketsOk = impl.Tickets(c.N, c.Tries)
	a.Inside, a.Alike = impl.Inside(c.O), impl.Alike(c.O, c.N)
	return a
}

func TestLocksAgain(t *testing.T) {
	wantSameAgain(t, lockCases(), lockAnswers)
}

func TestLocksAtOnce(t *testing.T) {
	wantSameAtOnce(t, lockCases(), lockAnswers)
}

// spoiltProg is a program with another value in each place, and in the room
// behind its lists.
func spoiltProg(p impl.Prog) {
	spoilt(p.Init, 99)
	for _, thread := range p.T[:cap(p.T)] {
		spoilt(thread.L, insFence)
	}
	spoilt(p.T, impl.Thread{})
}

func wantLocksNewMemory(t *testing.T, c lockCase) {
	t.Helper()
	old := deepCopy(c)
	a, again := lockAnswers(c), lockAnswers(c)
	if sharesMemory(a, again, c) || !wholeSame(c, old) {
		t.Fatalf("%+v, which was %+v: %+v shares memory", c, old, a)
	}
	for _, p := range []impl.Prog{a.Threads, a.Cells, a.Open, a.Shut, a.Swap, a.Tickets} {
		spoiltProg(p)
	}
	spoilt(a.Outcome.R, 99)
	if after := lockAnswers(c); !wholeSame(c, old) || !sameValue(after, again) {
		t.Fatalf("%+v, which was %+v: %+v and then %+v", c, old, again, after)
	}
	// What is done to an argument is not seen in what was answered.
	kept := deepCopy(again)
	spoiltProg(c.P)
	spoilt(c.Threads, 99)
	spoilt(c.Cells, 99)
	spoilt(c.O.R, 99)
	if !wholeSame(again, kept) {
		t.Fatalf("%+v was answered, and is %+v now", kept, again)
	}
}

func TestLocksAreNewMemory(t *testing.T) {
	turned := 0
	for _, c := range lockCases() {
		if a := lockAnswers(c); a.ThreadsOk && a.CellsOk && len(a.Outcome.R) > 0 {
			turned++
		}
		wantLocksNewMemory(t, deepCopy(c))
		wantLocksNewMemory(t, withRoom(c))
	}
	if turned < 20 {
		t.Errorf("only %d cases turn all", turned)
	}
}
