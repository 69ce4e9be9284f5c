package tests

import (
	"math/rand"
	"slices"
	"testing"

	"loop.example/g00713/impl"
)

func TestDekkerWrittenOut(t *testing.T) {
	for _, fence := range []bool{false, true} {
		if got := impl.Dekker(fence); !sameValue(got, dekkerByHand(fence)) || !impl.ProgOk(got) {
			t.Errorf("with fences %v: %+v, want %+v", fence, got, dekkerByHand(fence))
		}
	}
}

func TestSwapLockWrittenOut(t *testing.T) {
	for n := 1; n <= impl.MaxThreads; n++ {
		if got := swapLock(t, n); !sameValue(got, swapByHand(n)) || !impl.ProgOk(got) {
			t.Errorf("for %d threads: %+v, want %+v", n, got, swapByHand(n))
		}
	}
}

func TestSwapLockRefused(t *testing.T) {
	for _, n := range strangeThreads {
		if p, ok := impl.SwapLock(n); ok || !sameValue(p, impl.Prog{}) {
			t.Errorf("for %d threads: %+v, %v", n, p, ok)
		}
	}
}

func TestTicketsWrittenOut(t *testing.T) {
	for n := 1; n <= impl.MaxThreads; n++ {
		for tries := 1; tries <= maxTries; tries++ {
			if got := tickets(t, n, tries); !sameValue(got, ticketsByHand(n, tries)) || !impl.ProgOk(got) {
				t.Errorf("for %d threads with %d tries: %+v, want %+v", n, tries, got, ticketsByHand(n, tries))
			}
		}
	}
}

// Where the jumps lead: to the next try if this one has failed, to the end if it
// has not, or was the last one.
func TestTicketsJumps(t *testing.T) {
	for n := 1; n <= impl.MaxThreads; n++ {
		for tries := 1; tries <= maxTries; tries++ {
			for _, thread := range tickets(t, n, tries).T {
				if len(thread.L) != 7*tries {
					t.Fatalf("%d tries have %d instructions", tries, len(thread.L))
				}
				for try := range tries {
					failed, got := thread.L[7*try+4], thread.L[7*try+6]
					if failed != insZero(4, 7*(try+1)) || got != insJump(7*tries) {
						t.Errorf("try %d of %d leads on by %+v and %+v", try, tries, failed, got)
					}
					if next := failed.N; try < tries-1 && thread.L[next] != insLoad(2, 0) {
						t.Errorf("try %d of %d leads to %+v", try, tries, thread.L[next])
					}
				}
			}
		}
	}
}

func TestTicketsRefused(t *testing.T) {
	refuses := func(n int, tries int) {
		if p, ok := impl.Tickets(n, tries); ok || !sameValue(p, impl.Prog{}) {
			t.Errorf("for %d threads with %d tries: %+v, %v", n, tries, p, ok)
		}
	}
	for _, n := range strangeThreads {
		for tries := 1; tries <= maxTries; tries++ {
			refuses(n, tries)
		}
		for _, tries := range strangeTries {
			refuses(n, tries)
		}
	}
	for n := 1; n <= impl.MaxThreads; n++ {
		for _, tries := range strangeTries {
			refuses(n, tries)
		}
	}
}

func TestInsideWrittenOut(t *testing.T) {
	wantInside(t, 0)
	wantInside(t, 0, make([]int, 18)...)
	wantInside(t, 1, 1, 0, 0, 0, 0, 0)
	wantInside(t, 1, -1, 0, 0, 0, 0, 0)
	wantInside(t, 1, 0, 0, 0, 0, 0, 0, maxInt, 0, 0, 0, 0, 0)
	wantInside(t, 1, minInt, 0, 0, 0, 0, 0, 0, 1, 1, 1, 1, 1)
	// Those that are alike count each.
	wantInside(t, 2, 4, 0, 0, 0, 0, 0, 4, 0, 0, 0, 0, 0)
	wantInside(t, 2, 4, 0, 0, 0, 0, 0, 0, 0, 0, 0, 0, 0, -4, 0, 0, 0, 0, 0)
	wantInside(t, 3, 4, 0, 0, 0, 0, 0, 5, 0, 0, 0, 0, 0, 4, 0, 0, 0, 0, 0)
	wantInside(t, 3, slices.Repeat([]int{minInt}, 18)...)
	// Other registers don't.
	wantInside(t, 0, 0, 1, 2, 3, 4, 5)
	wantInside(t, 0, 0, 1, 1, 1, 1, 1, 0, -1, -1, -1, -1, -1, 0, maxInt, minInt, 7, 7, 7)
	wantInside(t, 1, 0, 1, 1, 1, 1, 1, 9, 1, 1, 1, 1, 1)
	wantInside(t, 100, slices.Repeat([]int{3, 0, 3, 0, 3, 0}, 100)...)
}

// A row may end in the middle of a thread, whose register 0 is there then.
func TestInsideShortRows(t *testing.T) {
	numbers := []int{1, 7, 7, 7, 7, 7, 2, 7, 7, 7, 7, 7, 3, 7}
	for n := range len(numbers) + 1 {
		want := 0
		for _, at := range []int{0, 6, 12} {
			if n > at {
				want++
			}
		}
		wantInside(t, want, numbers[:n]...)
	}
	wantInside(t, 1, 5)
	wantInside(t, 0, 0)
	wantInside(t, 0, 0, 5)
	wantInside(t, 2, 5, 0, 0, 0, 0, 0, 5)
}

func TestAlikeWrittenOut(t *testing.T) {
	for r := range impl.Regs {
		wantAlike(t, false, r)
		wantAlike(t, false, r, make([]int, 18)...)
		wantAlike(t, true, r, slices.Repeat([]int{5}, 18)...)
		wantAlike(t, false, r, 1, 1, 1, 1, 1, 1)
		// Two threads, in this register and in others.
		for other := range impl.Regs {
			l := make([]int, 18)
			l[r], l[6+other] = 8, 8
			wantAlike(t, r == other, r, l...)
			l[12+r] = 9
			wantAlike(t, r == other, r, l...)
			l[12+r] = 8
			wantAlike(t, true, r, l...)
		}
		// Three threads, of which two are alike, or none.
		for _, x := range [][3]int{{4, 4, 5}, {4, 5, 4}, {5, 4, 4}, {4, 4, 4}, {0, -1, -1}, {maxInt, 0, maxInt}, {minInt, minInt, 0}, {minInt, 1, minInt}} {
			l := make([]int, 18)
			l[r], l[6+r], l[12+r] = x[0], x[1], x[2]
			wantAlike(t, true, r, l...)
		}
		for _, x := range [][3]int{{0, 0, 0}, {0, 0, 5}, {0, 5, 0}, {5, 0, 0}, {4, 5, 6}, {4, -4, 0}, {1, 0, -1}, {maxInt, minInt, 0}, {maxInt, maxInt - 1, minInt}, {minInt, minInt + 1, maxInt}} {
			l := slices.Repeat([]int{3}, 18)
			l[r], l[6+r], l[12+r] = x[0], x[1], x[2]
			wantAlike(t, false, r, l...)
		}
	}
}

func TestAlikeNoRegister(t *testing.T) {
	for _, r := range append([]int{-2, -6, -7, -12, 6, 7, 11, 12, 18, impl.Regs * impl.MaxThreads}, farInts...) {
		wantAlike(t, false, r)
		wantAlike(t, false, r, slices.Repeat([]int{1}, 18)...)
		wantAlike(t, false, r, slices.Repeat([]int{minInt}, 45)...)
	}
}

// A row may end in the middle of a thread, whose registers that are there count.
func TestAlikeShortRows(t *testing.T) {
	numbers := []int{1, 2, 3, 4, 5, 6, 1, 2, 3, 4, 5, 6}
	for n := range len(numbers) + 1 {
		for r := range impl.Regs {
			wantAlike(t, n > 6+r, r, numbers[:n]...)
		}
	}
}

// insideByRule and alikeByRule look at one thread after another.
func insideByRule(o impl.Outcome) int {
	inside := 0
	for k := 0; k*6 < len(o.R); k++ {
		if o.R[k*6] != 0 {
			inside++
		}
	}
	return inside
}

func alikeByRule(o impl.Outcome, r int) bool {
	for k := 0; 0 <= r && r < 6 && k*6+r < len(o.R); k++ {
		for j := range k {
			if a := o.R[k*6+r]; a != 0 && a == o.R[j*6+r] {
				return true
			}
		}
	}
	return false
}

func TestInsideAndAlikeAgainstTheRule(t *testing.T) {
	r := rand.New(rand.NewSource(12))
	yes, no := 0, 0
	for range 20000 {
		o := randomOutcome(r)
		wantInside(t, insideByRule(o), o.R...)
		for register := -1; register <= 6; register++ {
			alike := alikeByRule(o, register)
			wantAlike(t, alike, register, o.R...)
			if alike {
				yes++
			} else {
				no++
			}
		}
	}
	if yes < 2000 || no < 2000 {
		t.Errorf("%d are alike, %d are not", yes, no)
	}
}

// What is turned has as many inside, and as many alike.
func TestInsideAndAlikeOfTurned(t *testing.T) {
	r := rand.New(rand.NewSource(13))
	for range 2000 {
		n := r.Intn(5)
		o := outcome()
		for range 6 * n {
			o.R = append(o.R, r.Intn(4))
		}
		turned := impl.TurnOutcome(o, r.Perm(n))
		wantInside(t, impl.Inside(o), turned.R...)
		for register := range impl.Regs {
			wantAlike(t, impl.Alike(o, register), register, turned.R...)
		}
	}
}
