package tests

import (
	"fmt"
	"sync"
	"testing"

	"loop.example/g00713/impl"
)

func takenOften(l []impl.Outcome) int {
	often := 0
	for _, o := range l {
		if impl.TakenOften(o) {
			often++
		}
	}
	return often
}

func sum(l []int) int {
	out := 0
	for _, n := range l {
		out += n
	}
	return out
}

// mayTakeTwice tells of which programs something may be taken twice by buffers:
// where the one who takes doesn't wait, goes for an item without InCas, as it
// knows of several, and the others may steal all items up to that one, the last.
func mayTakeTwice(c dequeCase) bool {
	return !hasTakeFence(c.fences) && c.items > 1 && sum(c.steals) >= c.items
}

// Promise 8, for all programs and all that may come of them, be it by more
// states than Outcomes tells of.
func TestNothingIsTakenTwice(t *testing.T) {
	for _, c := range dequeCases() {
		t.Run(fmt.Sprint(c), func(t *testing.T) {
			t.Parallel()
			p := dequeProg(t, c)
			if l := outcomesWalked(t, p, impl.KdOne); takenOften(l) != 0 || len(l) == 0 {
				t.Errorf("of %d outcomes of KdOne something is taken twice in %d", len(l), takenOften(l))
			}
			if l := outcomesWalked(t, p, impl.KdBuf); takenOften(l) > 0 != mayTakeTwice(c) || len(l) == 0 {
				t.Errorf("of %d outcomes of KdBuf something is taken twice in %d", len(l), takenOften(l))
			}
		})
	}
}

// Promise 8: of the last item nobody gets a second copy, by views neither.
func TestLastItemIsTakenOnce(t *testing.T) {
	for _, c := range dequeCases() {
		if c.items != 1 {
			continue
		}
		t.Run(fmt.Sprint(c), func(t *testing.T) {
			t.Parallel()
			l := outcomesWalked(t, dequeProg(t, c), impl.KdView)
			if takenOften(l) != 0 || len(l) == 0 {
				t.Errorf("of %d outcomes of KdView something is taken twice in %d", len(l), takenOften(l))
			}
		})
	}
}

// wantItems holds what is taken against what was there; a thread alone takes the
// last item.
func wantItems(t *testing.T, c dequeCase, kind int, l []impl.Outcome) {
	t.Helper()
	for _, o := range l {
		for _, item := range impl.Taken(o) {
			if item < 11 || item > 10+c.items {
				t.Errorf("kind %d: of %+v comes %v, where %d is no item", kind, c, o, item)
			}
		}
	}
	if len(c.steals) == 0 && (len(l) != 1 || !sameValue(impl.Taken(l[0]), []int{10 + c.items})) {
		t.Errorf("kind %d: of %+v comes %v", kind, c, l)
	}
}

// The same by what Outcomes tells.
func TestTakenOfOutcomes(t *testing.T) {
	told, twice := [3]int{}, 0
	for _, c := range dequeCases() {
		p := dequeProg(t, c)
		for _, kind := range kinds {
			l, ok := impl.Outcomes(p, kind, maxStates)
			if !ok {
				continue
			}
			told[kind]++
			wantItems(t, c, kind, l)
			if kind == impl.KdOne || kind == impl.KdBuf && hasTakeFence(c.fences) || c.items == 1 {
				if takenOften(l) != 0 {
					t.Errorf("kind %d: of %+v something is taken twice", kind, c)
				}
			} else if kind == impl.KdBuf && mayTakeTwice(c) {
				if takenOften(l) == 0 {
					t.Errorf("kind %d: of %+v nothing is taken twice", kind, c)
				}
				twice++
			}
		}
	}
	if told[impl.KdOne] < 60 || told[impl.KdBuf] < 60 || told[impl.KdView] < 60 || twice < 4 {
		t.Errorf("Outcomes tells of %v programs, of %d that something is taken twice", told, twice)
	}
}

// A program of which something may be taken twice, and how.
func TestTakenTwiceWitness(t *testing.T) {
	c := []impl.Cond{cond(0, 0, 12), cond(1, 1, 12)}
	for _, fences := range fenceSets {
		p := dequeProg(t, dequeCase{2, []int{2}, fences})
		picks, ok := impl.Witness(p, impl.KdBuf, maxStates, c)
		if ok == hasTakeFence(fences) || impl.May(p, impl.KdOne, maxStates, c) {
			t.Errorf("fences %d: %v takes 12 twice, %v", fences, picks, ok)
		}
		if !ok {
			continue
		}
		s, _ := impl.Run(p, started(t, p, impl.KdBuf), picks)
		o := outcome(registersOf(s)...)
		if !impl.Done(p, s) || !impl.TakenOften(o) || !sameValue(impl.Taken(o), []int{11, 12}) {
			t.Errorf("fences %d: %v leads to %+v", fences, picks, s)
		}
	}
}

// dequeAnswer is what the functions about the queue answer.
type dequeAnswer struct {
	Take  []impl.Ins
	Steal []impl.Ins
	Prog  impl.Prog
	Ok    bool
	Taken [][]int
	Often []bool
}

func someOutcomes() []impl.Outcome {
	return []impl.Outcome{{}, outcome(13, 0, 99, 0, 0, 0, 11, 13), outcome(12, 11), outcome(0, 5, 5, 5, 0, 0, maxInt, minInt, 1, 1, 1, 1, 5)}
}

func dequeAnswers(c dequeCase, r int, l []impl.Outcome) dequeAnswer {
	a := dequeAnswer{Take: impl.DequeTake(r, c.fences), Steal: impl.DequeSteal(r, c.fences)}
	a.Prog, a.Ok = impl.DequeProg(c.items, c.steals, c.fences)
	for _, o := range l {
		a.Taken, a.Often = append(a.Taken, impl.Taken(o)), append(a.Often, impl.TakenOften(o))
	}
	return a
}

func TestDequeAgain(t *testing.T) {
	for _, c := range append(dequeCases(), refusedCases()...) {
		for r := range 3 {
			first := dequeAnswers(c, r, someOutcomes())
			for range 3 {
				if again := dequeAnswers(c, r, someOutcomes()); !sameValue(again, first) {
					t.Fatalf("%+v, register %d: %+v and then %+v", c, r, first, again)
				}
			}
		}
	}
}

// Several calls at once answer as they do one after another, with the same
// arguments, too.
func TestDequeAtOnce(t *testing.T) {
	cases, outcomes := append(dequeCases(), refusedCases()...), someOutcomes()
	var want []dequeAnswer
	for k, c := range cases {
		want = append(want, dequeAnswers(c, k%3, outcomes))
	}
	var wg sync.WaitGroup
	for from := range 8 {
		wg.Add(1)
		go func() {
			defer wg.Done()
			for k := range cases {
				n := (from/2 + k) % len(cases)
				if got := dequeAnswers(cases[n], n%3, outcomes); !sameValue(got, want[n]) {
					t.Errorf("%+v answers %+v, and alone %+v", cases[n], got, want[n])
				}
			}
		}()
	}
	wg.Wait()
}

// spoilt is a list with another value in each place, and in the room behind it.
func spoilt[E any](l []E, value E) {
	l = l[:cap(l)]
	for k := range l {
		l[k] = value
	}
}

func wantDequeNewMemory(t *testing.T, c dequeCase, r int, l []impl.Outcome) {
	t.Helper()
	oldSteals, oldOutcomes := deepCopy(c.steals), deepCopy(l)
	a, again := dequeAnswers(c, r, l), dequeAnswers(c, r, l)
	if sharesMemory(a, again, c.steals, l) {
		t.Fatalf("%+v, register %d, %v: %+v shares memory", c, r, l, a)
	}
	spoilt(a.Take, insFence)
	spoilt(a.Steal, insFence)
	spoilt(a.Prog.Init, 99)
	for _, thread := range a.Prog.T {
		spoilt(thread.L, insFence)
	}
	for _, taken := range a.Taken {
		spoilt(taken, 99)
	}
	if !wholeSame(c.steals, oldSteals) || !wholeSame(l, oldOutcomes) {
		t.Fatalf("%v and %v were changed to %v and %v", oldSteals, oldOutcomes, c.steals, l)
	}
	if after := dequeAnswers(c, r, l); !sameValue(after, again) {
		t.Fatalf("%+v, register %d, %v: %+v and then %+v", c, r, l, again, after)
	}
}

func TestDequeIsNewMemory(t *testing.T) {
	for _, c := range append(dequeCases(), refusedCases()...) {
		for r := range 3 {
			wantDequeNewMemory(t, c, r, someOutcomes())
			roomy := dequeCase{c.items, withRoom(c.steals), c.fences}
			wantDequeNewMemory(t, roomy, r, withRoom(someOutcomes()))
		}
	}
}
