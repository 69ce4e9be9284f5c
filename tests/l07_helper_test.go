package tests

import (
	"math/rand"
	"slices"
	"testing"

	"loop.example/g00713/impl"
)

// maxSpots is the most spots of a program that LeastFences looks at.
const maxSpots = 8

func spot(t int, at int) impl.Spot {
	return impl.Spot{T: t, At: at}
}

func ins(l ...impl.Ins) []impl.Ins {
	return l
}

// spotsIn are spots of one thread.
func spotsIn(t int, ats ...int) []impl.Spot {
	var out []impl.Spot
	for _, at := range ats {
		out = append(out, spot(t, at))
	}
	return out
}

// allPlaces are the places of all instructions of a program.
func allPlaces(p impl.Prog) []impl.Spot {
	var out []impl.Spot
	for k, t := range p.T {
		for at := range t.L {
			out = append(out, spot(k, at))
		}
	}
	return out
}

// some picks some of the spots, in order.
func some(r *rand.Rand, l []impl.Spot) []impl.Spot {
	var out []impl.Spot
	for _, s := range l {
		if r.Intn(3) == 0 {
			out = append(out, s)
		}
	}
	return out
}

func isJump(i impl.Ins) bool {
	return i.Op == impl.InZero || i.Op == impl.InJump
}

// fencedByRule puts one fence after another, the last one first: what stands
// behind a place moves on by one, and what stood there has its fence there.
func fencedByRule(p impl.Prog, l []impl.Spot) (impl.Prog, bool) {
	out := copyProg(p)
	for _, s := range slices.Backward(l) {
		row := out.T[s.T].L
		for k, i := range row {
			if isJump(i) && i.N > s.At {
				row[k].N++
			}
		}
		out.T[s.T].L = slices.Insert(row, s.At, insFence)
	}
	return out, impl.ProgOk(out)
}

// alwaysDone tells whether number at is a fence or InCas over which no jump leads.
func alwaysDone(l []impl.Ins, at int) bool {
	if l[at].Op != impl.InFence && l[at].Op != impl.InCas {
		return false
	}
	return !slices.ContainsFunc(l[:at], func(i impl.Ins) bool { return isJump(i) && i.N > at })
}

func isSpot(l []impl.Ins, at int) bool {
	if l[at].Op != impl.InLoad && l[at].Op != impl.InLoadAt {
		return false
	}
	last := at - 1
	for last >= 0 && l[last].Op != impl.InStore && l[last].Op != impl.InStoreAt {
		last--
	}
	for between := last + 1; between < at; between++ {
		if alwaysDone(l, between) {
			return false
		}
	}
	return last >= 0
}

func spotsByRule(p impl.Prog) []impl.Spot {
	var out []impl.Spot
	for k, t := range p.T {
		for at := range t.L {
			if isSpot(t.L, at) {
				out = append(out, spot(k, at))
			}
		}
	}
	return out
}

// robustByRule tells whether a program is Robust, and whether that is told.
func robustByRule(p impl.Prog, most int) (bool, bool) {
	one, oneOk := impl.Outcomes(p, impl.KdOne, most)
	buf, bufOk := impl.Outcomes(p, impl.KdBuf, most)
	if !oneOk || !bufOk {
		return false, false
	}
	return sameValue(one, buf), true
}

// rowLess tells whether LeastFences looks at row a ahead of row b.
func rowLess(a []impl.Spot, b []impl.Spot) bool {
	if len(a) != len(b) {
		return len(a) < len(b)
	}
	for k := range a {
		if a[k].T != b[k].T {
			return a[k].T < b[k].T
		}
		if a[k].At != b[k].At {
			return a[k].At < b[k].At
		}
	}
	return false
}

// rowsOf are all rows of some of the spots, in the order in which they are
// looked at.
func rowsOf(l []impl.Spot) [][]impl.Spot {
	var rows [][]impl.Spot
	for set := range 1 << len(l) {
		var row []impl.Spot
		for k, s := range l {
			if set>>k&1 == 1 {
				row = append(row, s)
			}
		}
		at := 0
		for at < len(rows) && rowLess(rows[at], row) {
			at++
		}
		rows = slices.Insert(rows, at, row)
	}
	return rows
}

// leastByRule is the row that LeastFences is to answer.
func leastByRule(p impl.Prog, most int) ([]impl.Spot, bool) {
	spots := spotsByRule(p)
	if len(spots) > maxSpots {
		return nil, false
	}
	for _, row := range rowsOf(spots) {
		q, ok := fencedByRule(p, row)
		robust, told := robustByRule(q, most)
		if !ok || !told {
			return nil, false
		}
		if robust {
			return row, true
		}
	}
	return nil, false
}

// statesWanted is how many states a search has to get at to tell whether a
// program is Robust.
func statesWanted(t *testing.T, p impl.Prog) int {
	t.Helper()
	one, oneOk := impl.States(p, impl.KdOne, maxStates)
	buf, bufOk := impl.States(p, impl.KdBuf, maxStates)
	if !oneOk || !bufOk {
		t.Fatalf("too many states of %+v", p)
	}
	return max(one, buf)
}

// storingIns is most often a store or a load, and leads no further than two
// instructions on.
func storingIns(r *rand.Rand, at int, cells int) impl.Ins {
	switch r.Intn(12) {
	case 0:
		return insFence
	case 1:
		return insCas(2, r.Intn(cells), 3, 1)
	case 2:
		return insZero(r.Intn(3), at+1+r.Intn(2))
	case 3:
		return insStoreAt(0, 1, 2, 1)
	case 4:
		return insLoadAt(3, 0, r.Intn(4), 2)
	case 5, 6:
		return insStore(r.Intn(cells), 1)
	case 7:
		return insSet(1, 5)
	default:
		return insLoad(2+r.Intn(2), r.Intn(cells))
	}
}

// storingProg is a program whose threads each store their own cell and load
// the next one's, with something between and behind that.
func storingProg(r *rand.Rand) impl.Prog {
	threads := 2 + r.Intn(4)/3
	p := progOf(make([]int, threads))
	for k := range threads {
		l := ins(insSet(1, k+1), insStore(k, 1))
		for range r.Intn(5 - threads) {
			l = append(l, storingIns(r, len(l), threads))
		}
		l = append(l, insLoad(0, (k+1)%threads))
		for range r.Intn(7 - 2*threads) {
			l = append(l, storingIns(r, len(l), threads))
		}
		p.T = append(p.T, row(append(l, insSet(1, 0))...))
	}
	return p
}

// storingProgs are programs of at most 700 states, so that all rows of their
// spots can be tried.
func storingProgs(n int) []impl.Prog {
	r := rand.New(rand.NewSource(7))
	var out []impl.Prog
	for len(out) < n {
		p := storingProg(r)
		if _, ok := impl.States(p, impl.KdBuf, 700); ok && len(spotsByRule(p)) <= 5 {
			out = append(out, p)
		}
	}
	return out
}

// fencedProgs are programs that are small enough for all of the chapter, and
// one that is none.
func fencedProgs() []impl.Prog {
	return slices.Concat(walkedProgs(), []impl.Prog{crossed(), crossed(insFence), {}}, smallProgs(60), storingProgs(120))
}

// crossedWith is crossed, whose threads have so much ahead of their loads of
// the other's cell.
func crossedWith(first []impl.Ins, second []impl.Ins) impl.Prog {
	p := crossed()
	p.T[0].L = slices.Insert(p.T[0].L, 2, first...)
	p.T[1].L = slices.Insert(p.T[1].L, 2, second...)
	return p
}

// wantFenced holds what comes of fences against a program's threads.
func wantFenced(t *testing.T, p impl.Prog, l []impl.Spot, want ...impl.Thread) {
	t.Helper()
	if got, ok := impl.Fenced(p, l); !ok || !sameValue(got, progOf(p.Init, want...)) {
		t.Errorf("%+v with fences at %v is %+v, %v, want %+v", p, l, got, ok, want)
	}
}

func refusesFenced(t *testing.T, p impl.Prog, l ...impl.Spot) {
	t.Helper()
	if got, ok := impl.Fenced(p, l); ok || !sameValue(got, impl.Prog{}) {
		t.Errorf("%+v with fences at %v is %+v, %v", p, l, got, ok)
	}
}

func wantSpots(t *testing.T, p impl.Prog, want ...impl.Spot) {
	t.Helper()
	if got := impl.Spots(p); !sameValue(got, want) {
		t.Errorf("the spots of %+v are %v, want %v", p, got, want)
	}
}

func wantRobust(t *testing.T, want bool, p impl.Prog, most int) {
	t.Helper()
	if got, ok := impl.Robust(p, most); !ok || got != want {
		t.Errorf("%d states at most: whether %+v is robust is %v, %v", most, p, got, ok)
	}
}

func refusesRobust(t *testing.T, p impl.Prog, most int) {
	t.Helper()
	if got, ok := impl.Robust(p, most); ok || got {
		t.Errorf("%d states at most: whether %+v is robust is %v, %v", most, p, got, ok)
	}
}

func wantLeast(t *testing.T, p impl.Prog, most int, want ...impl.Spot) {
	t.Helper()
	if got, ok := impl.LeastFences(p, most); !ok || !sameValue(got, want) {
		t.Errorf("%d states at most: the fences of %+v are %v, %v, want %v", most, p, got, ok, want)
	}
}

func refusesLeast(t *testing.T, p impl.Prog, most int) {
	t.Helper()
	if got, ok := impl.LeastFences(p, most); ok || len(got) != 0 {
		t.Errorf("%d states at most: the fences of %+v are %v, %v", most, p, got, ok)
	}
}
