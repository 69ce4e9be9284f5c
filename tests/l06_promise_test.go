package tests

import (
	"fmt"
	"math/rand"
	"slices"
	"sync"
	"testing"

	"loop.example/g00713/impl"
)

// runToEnd picks until there are no moves left.
func runToEnd(t *testing.T, p impl.Prog, kind int, r *rand.Rand) ([]int, impl.State) {
	t.Helper()
	picks := make([]int, leftOf(p, started(t, p, kind)))
	for k := range picks {
		picks[k] = r.Int() - r.Int()
	}
	s, n := impl.Run(p, started(t, p, kind), picks)
	if !impl.Done(p, s) {
		t.Fatalf("kind %d: %v leads %+v to %+v", kind, picks, p, s)
	}
	return picks[:n], s
}

// Promise 6: whatever is picked comes out as one of the outcomes.
func TestWhateverIsPickedIsAnOutcome(t *testing.T) {
	r := rand.New(rand.NewSource(66))
	for _, p := range append(searchedProgs(), crossed(), crossed(insFence)) {
		for _, kind := range kinds {
			l, ok := impl.Outcomes(p, kind, maxStates)
			if !ok {
				t.Fatalf("kind %d: too many states of %+v", kind, p)
			}
			for range 20 {
				picks, s := runToEnd(t, p, kind, r)
				o := outcome(registersOf(s)...)
				if !impl.Within([]impl.Outcome{o}, l) {
					t.Fatalf("kind %d: %v leads %+v to %v, which is none of %v", kind, picks, p, o, l)
				}
				if w, _ := impl.Witness(p, kind, maxStates, condsOf(o)); len(w) > len(picks) || len(w) == len(picks) && slices.Compare(w, reduced(t, p, kind, picks)) > 0 {
					t.Fatalf("kind %d: %v leads %+v to %v, and so do %v", kind, picks, p, o, w)
				}
			}
		}
	}
}

// reduced has the rest of each pick by how many moves there are.
func reduced(t *testing.T, p impl.Prog, kind int, picks []int) []int {
	t.Helper()
	s := started(t, p, kind)
	var out []int
	for _, pick := range picks {
		out = append(out, pickOf(pick, len(impl.Moves(p, s))))
		s, _ = impl.Run(p, s, []int{pick})
	}
	return out
}

// Promise 6: a thread alone comes out in one way, the same by all three kinds.
func TestThreadAlone(t *testing.T) {
	r := rand.New(rand.NewSource(7))
	for range 150 {
		p := randomProg(r)
		p.T = p.T[:1]
		if r.Intn(2) > 0 {
			p.T = slices.Insert(p.T, r.Intn(2), impl.Thread{})
		}
		_, s := runToEnd(t, p, impl.KdOne, r)
		for _, kind := range kinds {
			wantOutcomes(t, p, kind, maxStates, outcome(registersOf(s)...))
		}
	}
}

// Promise 6: a witness leads to what was asked for, and there is one just where
// it may come out.
func TestWitnessLeadsThere(t *testing.T) {
	for _, p := range append(searchedProgs(), crossed(), crossed(insFence)) {
		for _, kind := range kinds {
			l, _ := impl.Outcomes(p, kind, maxStates)
			for _, c := range someConds(l) {
				picks, ok := impl.Witness(p, kind, maxStates, c)
				if ok != impl.May(p, kind, maxStates, c) {
					t.Fatalf("kind %d: a witness that %+v comes to %v is %v", kind, p, c, ok)
				}
				if !ok {
					continue
				}
				s, n := impl.Run(p, started(t, p, kind), picks)
				if n != len(picks) || !impl.Done(p, s) || !impl.Meets(outcome(registersOf(s)...), c) || !sameValue(picks, reduced(t, p, kind, picks)) {
					t.Fatalf("kind %d: %v leads %+v to %+v, and not to %v", kind, picks, p, s, c)
				}
			}
		}
	}
}

// What may come of one thread after another may come of all kinds.
func TestOutcomesOfOtherKinds(t *testing.T) {
	for _, p := range searchedProgs() {
		one, _ := impl.Outcomes(p, impl.KdOne, maxStates)
		buf, _ := impl.Outcomes(p, impl.KdBuf, maxStates)
		view, _ := impl.Outcomes(p, impl.KdView, maxStates)
		wantWithin(t, true, one, buf)
		wantWithin(t, true, buf, view)
	}
}

// searchAnswer is what the functions about all ways answer.
type searchAnswer struct {
	Outcomes []impl.Outcome
	Ok       bool
	States   int
	May      []bool
	Meets    []bool
	Within   []bool
	Witness  [][]int
	Few      []impl.Outcome
	FewOk    bool
}

func searchAnswers(p impl.Prog, kind int) searchAnswer {
	var a searchAnswer
	a.Outcomes, a.Ok = impl.Outcomes(p, kind, maxStates)
	a.States, _ = impl.States(p, kind, maxStates)
	a.Few, a.FewOk = impl.Outcomes(p, kind, max(1, a.States-1))
	for _, c := range someConds(a.Outcomes) {
		a.May = append(a.May, impl.May(p, kind, maxStates, c))
		picks, _ := impl.Witness(p, kind, maxStates, c)
		a.Witness = append(a.Witness, picks)
		for _, o := range a.Outcomes {
			a.Meets = append(a.Meets, impl.Meets(o, c))
		}
	}
	for k := range a.Outcomes {
		a.Within = append(a.Within, impl.Within(a.Outcomes[k:], a.Outcomes), impl.Within(a.Outcomes, a.Outcomes[k:]))
	}
	return a
}

// Several calls at once answer as they do one after another, with the same
// arguments, too.
func TestSearchAtOnce(t *testing.T) {
	progs := append(walkedProgs(), crossed(), crossed(insFence))
	want := map[int]string{}
	for k, p := range progs {
		for _, kind := range kinds {
			want[3*k+kind] = fmt.Sprint(searchAnswers(p, kind))
		}
	}
	var wg sync.WaitGroup
	for from := range 6 {
		wg.Add(1)
		go func() {
			defer wg.Done()
			for k := range 3 * len(progs) {
				n := (from/2 + k) % (3 * len(progs))
				if got := fmt.Sprint(searchAnswers(progs[n/3], n%3)); got != want[n] {
					t.Errorf("kind %d: %+v answers %s, and alone %s", n%3, progs[n/3], got, want[n])
				}
			}
		}()
	}
	wg.Wait()
}

func wantSearchNewMemory(t *testing.T, p impl.Prog, kind int, l []impl.Outcome, c []impl.Cond) {
	t.Helper()
	oldProg, oldOutcomes, oldConds := deepCopy(p), deepCopy(l), deepCopy(c)
	outcomes, _ := impl.Outcomes(p, kind, maxStates)
	again, _ := impl.Outcomes(p, kind, maxStates)
	picks, _ := impl.Witness(p, kind, maxStates, c)
	impl.States(p, kind, maxStates)
	impl.May(p, kind, maxStates, c)
	impl.Within(l, outcomes)
	impl.Within(l, l)
	for _, o := range l {
		impl.Meets(o, c)
	}
	if sharesMemory(outcomes, again, picks, p, l, c) || sharesMemory(picks, outcomes, p, l, c) {
		t.Fatalf("kind %d: what %+v comes to shares memory: %v, %v", kind, p, outcomes, picks)
	}
	if !wholeSame(p, oldProg) || !wholeSame(l, oldOutcomes) || !wholeSame(c, oldConds) {
		t.Fatalf("%+v, %v and %v were changed to %+v, %v and %v", oldProg, oldOutcomes, oldConds, p, l, c)
	}
	for k := range outcomes {
		outcomes[k].R[0] = 99
	}
	if after, _ := impl.Outcomes(p, kind, maxStates); !sameValue(after, again) {
		t.Fatalf("kind %d: %+v comes to %v and then %v", kind, p, again, after)
	}
}

func TestSearchIsNewMemory(t *testing.T) {
	for _, p := range append(walkedProgs(), sample(), crossed(), smallProgs(1)[0]) {
		for _, kind := range kinds {
			l, _ := impl.Outcomes(p, kind, maxStates)
			for _, c := range someConds(l) {
				wantSearchNewMemory(t, p, kind, l, c)
				wantSearchNewMemory(t, withRoom(p), kind, withRoom(l), withRoom(c))
			}
		}
	}
	for _, p := range badProgs() {
		for _, kind := range slices.Concat(kinds, []int{3}) {
			wantSearchNewMemory(t, withRoom(p), kind, []impl.Outcome{{}}, []impl.Cond{cond(0, 0, 0)})
		}
	}
}
