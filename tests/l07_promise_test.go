package tests

import (
	"fmt"
	"math/rand"
	"slices"
	"sync"
	"testing"

	"loop.example/g00713/impl"
)

// Promise 7: what may come of a program by one kind may come of it by the next
// one.
func TestOutcomesGrowByKind(t *testing.T) {
	more := [2]int{}
	progs := append(fencedProgs(), rounds(2))
	for _, x := range asked() {
		progs = append(progs, x.p)
	}
	for _, p := range progs {
		one, oneOk := impl.Outcomes(p, impl.KdOne, maxStates)
		buf, bufOk := impl.Outcomes(p, impl.KdBuf, maxStates)
		view, viewOk := impl.Outcomes(p, impl.KdView, maxStates)
		if oneOk && bufOk {
			wantWithin(t, true, one, buf)
			more[0] += len(buf) - len(one)
		}
		if bufOk && viewOk {
			wantWithin(t, true, buf, view)
			more[1] += len(view) - len(buf)
		}
	}
	if more[0] < 100 || more[1] < 20 {
		t.Errorf("only %v outcomes more", more)
	}
}

// Promise 7: fences let nothing more happen, wherever they stand.
func TestFencesLetNothingMoreHappen(t *testing.T) {
	r := rand.New(rand.NewSource(47))
	less := [3]int{}
	for _, p := range append(fencedProgs(), rounds(2)) {
		for _, kind := range kinds {
			l, ok := impl.Outcomes(p, kind, maxStates)
			for _, row := range [][]impl.Spot{impl.Spots(p), some(r, impl.Spots(p)), allPlaces(p), some(r, allPlaces(p)), some(r, allPlaces(p))} {
				q, fenced := impl.Fenced(p, row)
				m, told := impl.Outcomes(q, kind, maxStates)
				if !ok || !fenced || !told {
					continue
				}
				wantWithin(t, true, m, l)
				less[kind] += len(l) - len(m)
			}
		}
	}
	if less[impl.KdOne] != 0 || less[impl.KdBuf] < 100 || less[impl.KdView] < 100 {
		t.Errorf("%v outcomes less", less)
	}
}

// Promise 7: at all spots they are enough, be it over jumps.
func TestFencesAtAllSpotsAreEnough(t *testing.T) {
	r := rand.New(rand.NewSource(57))
	progs := append(fencedProgs(), rounds(2), rounds(3))
	for range 400 {
		progs = append(progs, storingProg(r))
	}
	wanted := 0
	for _, p := range progs {
		q, ok := impl.Fenced(p, impl.Spots(p))
		if _, few := impl.States(q, impl.KdBuf, 2000); !ok || !few {
			continue
		}
		wantRobust(t, true, q, maxStates)
		if robust, told := impl.Robust(p, 2000); told && !robust {
			wanted++
		}
	}
	if wanted < 200 {
		t.Errorf("only %d programs of which fences are wanted", wanted)
	}
}

// Promise 7: as few as can be are enough, and without any one of them they are
// not.
func TestLeastFencesAreEnough(t *testing.T) {
	several := 0
	for _, p := range append(fencedProgs(), rounds(2)) {
		least, ok := impl.LeastFences(p, maxStates)
		if ok != impl.ProgOk(p) {
			t.Fatalf("the fences of %+v are %v, %v", p, least, ok)
		}
		if !ok {
			continue
		}
		q, _ := impl.Fenced(p, least)
		wantRobust(t, true, q, maxStates)
		for k, s := range least {
			if !slices.Contains(impl.Spots(p), s) {
				t.Errorf("%v of %v is no spot of %+v", s, least, p)
			}
			q, _ := impl.Fenced(p, slices.Delete(slices.Clone(least), k, k+1))
			wantRobust(t, false, q, maxStates)
		}
		if len(least) > 1 {
			several++
		}
	}
	if several < 20 {
		t.Errorf("only %d programs of which several are wanted", several)
	}
}

// fenceAnswer is what the functions about fences answer.
type fenceAnswer struct {
	Spots  []impl.Spot
	Fenced []impl.Prog
	Ok     []bool
	Robust []bool
	Told   []bool
	Least  [][]impl.Spot
	Found  []bool
}

// fenceRows are rows of which the last two are refused.
func fenceRows(p impl.Prog) [][]impl.Spot {
	return [][]impl.Spot{nil, impl.Spots(p), allPlaces(p), {spot(0, -1)}, {spot(0, 1), spot(0, 1)}}
}

func fenceAnswers(p impl.Prog, mosts ...int) fenceAnswer {
	a := fenceAnswer{Spots: impl.Spots(p)}
	for _, row := range fenceRows(p) {
		q, ok := impl.Fenced(p, row)
		a.Fenced, a.Ok = append(a.Fenced, q), append(a.Ok, ok)
	}
	for _, most := range mosts {
		robust, told := impl.Robust(p, most)
		least, found := impl.LeastFences(p, most)
		a.Robust, a.Told = append(a.Robust, robust), append(a.Told, told)
		a.Least, a.Found = append(a.Least, least), append(a.Found, found)
	}
	return a
}

func answeredProgs() []impl.Prog {
	return append(walkedProgs(), crossed(), crossed(insFence), rounds(2), impl.Prog{}, progOf([]int{0}, row(insJump(2))))
}

func TestFencesAgain(t *testing.T) {
	for _, p := range append(answeredProgs(), storingProgs(10)...) {
		first := fmt.Sprint(fenceAnswers(p, 0, 20, 100, maxStates))
		for range 3 {
			if again := fmt.Sprint(fenceAnswers(p, 0, 20, 100, maxStates)); again != first {
				t.Fatalf("%+v answers %s and then %s", p, first, again)
			}
		}
	}
}

// Several calls at once answer as they do one after another, with the same
// arguments, too.
func TestFencesAtOnce(t *testing.T) {
	progs := answeredProgs()
	var want []string
	for _, p := range progs {
		want = append(want, fmt.Sprint(fenceAnswers(p, 30, maxStates)))
	}
	var wg sync.WaitGroup
	for from := range 4 {
		wg.Add(1)
		go func() {
			defer wg.Done()
			for k := range progs {
				n := (from/2 + k) % len(progs)
				if got := fmt.Sprint(fenceAnswers(progs[n], 30, maxStates)); got != want[n] {
					t.Errorf("%+v answers %s, and alone %s", progs[n], got, want[n])
				}
			}
		}()
	}
	wg.Wait()
}

func wantFencesNewMemory(t *testing.T, p impl.Prog, l []impl.Spot) {
	t.Helper()
	oldProg, oldSpots := deepCopy(p), deepCopy(l)
	spots, again := impl.Spots(p), impl.Spots(p)
	fenced, _ := impl.Fenced(p, l)
	unfenced, _ := impl.Fenced(p, nil)
	least, _ := impl.LeastFences(p, maxStates)
	leastAgain, _ := impl.LeastFences(p, maxStates)
	impl.Robust(p, maxStates)
	answers := []any{spots, again, fenced, unfenced, least, leastAgain}
	for k, answer := range answers {
		others := append(slices.Delete(slices.Clone(answers), k, k+1), p, l)
		if sharesMemory(answer, others...) {
			t.Fatalf("%+v with fences at %v: answer %d shares memory: %v", p, l, k, answers)
		}
	}
	if !wholeSame(p, oldProg) || !wholeSame(l, oldSpots) {
		t.Fatalf("%+v and %v were changed to %+v and %v", oldProg, oldSpots, p, l)
	}
	for k := range spots {
		spots[k] = spot(9, 9)
	}
	for k := range least {
		least[k] = spot(9, 9)
	}
	if !sameValue(impl.Spots(p), again) {
		t.Fatalf("the spots of %+v are %v and then %v", p, again, impl.Spots(p))
	}
	if after, _ := impl.LeastFences(p, maxStates); !sameValue(after, leastAgain) {
		t.Fatalf("the fences of %+v are %v and then %v", p, leastAgain, after)
	}
}

func TestFencesAreNewMemory(t *testing.T) {
	for _, p := range slices.Concat(answeredProgs(), badProgs(), storingProgs(10), []impl.Prog{sample()}) {
		for _, row := range fenceRows(p) {
			wantFencesNewMemory(t, p, row)
			wantFencesNewMemory(t, withRoom(p), withRoom(row))
		}
	}
}
