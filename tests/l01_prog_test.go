package tests

import (
	"math"
	"reflect"
	"testing"

	"loop.example/g00713/impl"
)

func TestProgOkOrdinary(t *testing.T) {
	if !impl.ProgOk(sample()) {
		t.Error("the sample is refused")
	}
	for _, value := range append([]int{0, 1}, farInts...) {
		if !impl.ProgOk(impl.Prog{Init: []int{value}, T: []impl.Thread{{}}}) {
			t.Errorf("a cell that begins with %d is refused", value)
		}
	}
}

func TestProgOkLimits(t *testing.T) {
	for cells := range impl.MaxCells + 3 {
		p := impl.Prog{Init: make([]int, cells), T: []impl.Thread{{}}}
		if impl.ProgOk(p) != (cells >= 1 && cells <= impl.MaxCells) {
			t.Errorf("%d cells", cells)
		}
	}
	for threads := range impl.MaxThreads + 3 {
		p := impl.Prog{Init: []int{0}, T: make([]impl.Thread, threads)}
		if impl.ProgOk(p) != (threads >= 1 && threads <= impl.MaxThreads) {
			t.Errorf("%d threads", threads)
		}
	}
	for k := range impl.MaxThreads {
		for n := range 2*impl.MaxIns + 2 {
			p := impl.Prog{Init: []int{0}, T: make([]impl.Thread, impl.MaxThreads)}
			p.T[k] = fences(n)
			if impl.ProgOk(p) != (n <= impl.MaxIns) {
				t.Errorf("%d instructions in thread %d", n, k)
			}
		}
	}
	if impl.ProgOk(impl.Prog{}) {
		t.Error("nothing at all is accepted")
	}
}

func TestProgOkAtEachPlace(t *testing.T) {
	bad := []impl.Ins{{}, {Op: 15}, {Op: impl.InFence, R: 1}, {Op: impl.InMov, A: impl.Regs}, {Op: impl.InLoad, X: 2}, {Op: impl.InStoreAt, N: 3}, {Op: impl.InJump, N: impl.MaxIns + 1}, {Op: impl.InSub, B: math.MinInt}}
	for k := range impl.MaxThreads {
		for at := range impl.MaxIns {
			for _, i := range bad {
				p := impl.Prog{Init: []int{0, 0}, T: []impl.Thread{fences(impl.MaxIns), fences(impl.MaxIns), fences(impl.MaxIns)}}
				p.T[k].L[at] = i
				if impl.ProgOk(p) {
					t.Fatalf("%+v accepted as number %d of thread %d", i, at, k)
				}
			}
		}
	}
}

func TestProgOkJumpsAndCells(t *testing.T) {
	for to := range impl.MaxIns + 2 {
		p := impl.Prog{Init: []int{0}, T: []impl.Thread{fences(4), fences(impl.MaxIns)}}
		p.T[0].L[2] = impl.Ins{Op: impl.InZero, N: to}
		if impl.ProgOk(p) != (to == 3 || to == 4) {
			t.Errorf("a jump from 2 of 4 to %d", to)
		}
	}
	for cells := 1; cells <= impl.MaxCells; cells++ {
		for x := range impl.MaxCells + 1 {
			p := impl.Prog{Init: make([]int, cells), T: []impl.Thread{{}, {L: []impl.Ins{{Op: impl.InStore, X: x}}}}}
			if impl.ProgOk(p) != (x < cells) {
				t.Errorf("cell %d of %d", x, cells)
			}
		}
	}
}

func TestProgOkWithLongerRow(t *testing.T) {
	p := sample()
	for len(p.T[0].L) < impl.MaxIns {
		p.T[0].L = append(p.T[0].L, impl.Ins{Op: impl.InFence})
		if !impl.ProgOk(p) {
			t.Fatalf("refused with %d instructions", len(p.T[0].L))
		}
	}
}

// oddProgs are programs that are as they should be and some that are not.
func oddProgs() []impl.Prog {
	return []impl.Prog{
		sample(), {}, {Init: []int{1}}, {T: []impl.Thread{{}}}, {Init: make([]int, 100), T: make([]impl.Thread, 9)},
		{Init: []int{math.MinInt, math.MaxInt}, T: []impl.Thread{{L: []impl.Ins{{Op: -1, R: -1, A: 9, B: math.MaxInt, X: math.MinInt, N: 3}}}}},
		{Init: []int{0}, T: []impl.Thread{fences(impl.MaxIns), fences(impl.MaxIns + 1), fences(3 * impl.MaxIns)}},
	}
}

func TestSameProgAsItself(t *testing.T) {
	for k, p := range oddProgs() {
		if !impl.SameProg(p, p) || !impl.SameProg(p, copyProg(p)) || !impl.SameProg(copyProg(p), p) {
			t.Errorf("program %d is not the same as itself", k)
		}
	}
	for k, p := range oddProgs() {
		for l, q := range oddProgs() {
			if impl.SameProg(p, q) != (k == l) {
				t.Errorf("programs %d and %d", k, l)
			}
		}
	}
}

func TestSameProgNil(t *testing.T) {
	a := impl.Prog{Init: []int{}, T: []impl.Thread{}}
	if !impl.SameProg(a, impl.Prog{}) || !impl.SameProg(impl.Prog{}, a) {
		t.Error("empty lists and nil are not the same")
	}
	b := impl.Prog{Init: []int{1}, T: []impl.Thread{{L: []impl.Ins{}}}}
	c := impl.Prog{Init: []int{1}, T: []impl.Thread{{}}}
	if !impl.SameProg(b, c) || !impl.SameProg(c, b) || impl.SameProg(a, b) {
		t.Error("an empty row and nil are not the same")
	}
}

func differ(t *testing.T, p impl.Prog, change func(q *impl.Prog)) {
	t.Helper()
	q := copyProg(p)
	change(&q)
	if impl.SameProg(p, q) || impl.SameProg(q, p) {
		t.Errorf("%+v is the same as %+v", p, q)
	}
}

func TestSameProgEachNumber(t *testing.T) {
	p := sample()
	for k := range p.Init {
		differ(t, p, func(q *impl.Prog) { q.Init[k]++ })
	}
	for k := range p.T {
		for at := range p.T[k].L {
			differ(t, p, func(q *impl.Prog) { q.T[k].L[at].Op++ })
			for _, field := range "RABXN" {
				differ(t, p, func(q *impl.Prog) { q.T[k].L[at] = set(q.T[k].L[at], field, 99) })
			}
		}
	}
}

func TestSameProgLengths(t *testing.T) {
	p := sample()
	differ(t, p, func(q *impl.Prog) { q.Init = append(q.Init, 0) })
	differ(t, p, func(q *impl.Prog) { q.Init = q.Init[:3] })
	differ(t, p, func(q *impl.Prog) { q.Init = nil })
	differ(t, p, func(q *impl.Prog) { q.T = append(q.T, impl.Thread{}) })
	differ(t, p, func(q *impl.Prog) { q.T = q.T[:2] })
	differ(t, p, func(q *impl.Prog) { q.T[0], q.T[1] = q.T[1], q.T[0] })
	for k := range p.T {
		// A zero instruction must not pass for the room behind a row.
		differ(t, p, func(q *impl.Prog) { q.T[k].L = append(q.T[k].L, impl.Ins{}) })
	}
	differ(t, p, func(q *impl.Prog) { q.T[0].L = q.T[0].L[:len(q.T[0].L)-1] })
}

func TestSameProgLongRows(t *testing.T) {
	const long = 2*impl.MaxIns + 1
	p := impl.Prog{Init: make([]int, long), T: []impl.Thread{fences(long)}}
	for at := range long {
		differ(t, p, func(q *impl.Prog) { q.Init[at] = 1 })
		differ(t, p, func(q *impl.Prog) { q.T[0].L[at].N = 1 })
	}
	for n := range long {
		differ(t, p, func(q *impl.Prog) { q.Init = q.Init[:n] })
		differ(t, p, func(q *impl.Prog) { q.T[0].L = q.T[0].L[:n] })
	}
}

func TestProgramsAreNotChanged(t *testing.T) {
	for k, p := range oddProgs() {
		before := copyProg(p)
		var room []impl.Ins
		if len(p.T) > 0 {
			room = append(p.T[0].L[:len(p.T[0].L):len(p.T[0].L)], impl.Ins{Op: 77})
			p.T[0].L = room[:len(room)-1]
		}
		impl.ProgOk(p)
		impl.SameProg(p, before)
		if !reflect.DeepEqual(copyProg(p), before) {
			t.Errorf("program %d was changed", k)
		}
		if len(room) > 0 && room[len(room)-1] != (impl.Ins{Op: 77}) {
			t.Errorf("the room behind a row of program %d was changed", k)
		}
	}
}
