package tests

import (
	"math"
	"slices"
	"testing"

	"loop.example/g00713/impl"
)

// changed tells whether a start of that kind for p is a state after a change.
func changed(t *testing.T, p impl.Prog, kind int, change func(s *impl.State)) bool {
	t.Helper()
	s := started(t, p, kind)
	change(&s)
	return impl.StateOk(p, s)
}

func wantState(t *testing.T, want bool, p impl.Prog, kind int, change func(s *impl.State)) {
	t.Helper()
	if changed(t, p, kind, change) != want {
		s := started(t, p, kind)
		change(&s)
		t.Errorf("StateOk is not %v: %+v", want, s)
	}
}

func TestStateOkPrograms(t *testing.T) {
	for _, kind := range kinds {
		s := started(t, sample(), kind)
		for _, p := range badProgs() {
			if impl.StateOk(p, s) || impl.StateOk(p, impl.State{Kind: kind}) {
				t.Errorf("a state of kind %d of %+v", kind, p)
			}
			if impl.Done(p, s) || impl.Done(p, impl.State{Kind: kind}) {
				t.Errorf("a state of kind %d of %+v is done", kind, p)
			}
		}
	}
	// What Start would give, were the program right.
	p := impl.Prog{Init: []int{1}, T: []impl.Thread{fences(impl.MaxIns + 1)}}
	if impl.StateOk(p, wantedStart(p, impl.KdOne)) || impl.StateOk(p, wantedStart(p, impl.KdBuf)) || impl.StateOk(p, wantedStart(p, impl.KdView)) {
		t.Error("a program that is not right has a state")
	}
}

func TestStateOkKinds(t *testing.T) {
	for _, kind := range kinds {
		for _, other := range append(kinds[:3:3], strangeKinds...) {
			wantState(t, other == kind, sample(), kind, func(s *impl.State) { s.Kind = other })
		}
	}
	if impl.StateOk(sample(), impl.State{}) {
		t.Error("nothing at all is a state")
	}
}

func TestStateOkPc(t *testing.T) {
	p := sample()
	for _, kind := range kinds {
		for k := range p.T {
			n := len(p.T[k].L)
			for pc := range impl.MaxIns + 2 {
				wantState(t, pc <= n, p, kind, func(s *impl.State) { s.Pc[k] = pc })
			}
			for _, pc := range farInts {
				wantState(t, false, p, kind, func(s *impl.State) { s.Pc[k] = pc })
			}
		}
		wantState(t, false, p, kind, func(s *impl.State) { s.Pc = nil })
		wantState(t, false, p, kind, func(s *impl.State) { s.Pc = s.Pc[:2] })
		wantState(t, false, p, kind, func(s *impl.State) { s.Pc = append(s.Pc, 0) })
	}
}

func TestStateOkRegisters(t *testing.T) {
	p := sample()
	for _, kind := range kinds {
		for k := range p.T {
			for n := range 2*impl.Regs + 1 {
				wantState(t, n == impl.Regs, p, kind, func(s *impl.State) { s.F[k].R = make([]int, n) })
			}
			for _, val := range farInts {
				wantState(t, true, p, kind, func(s *impl.State) { s.F[k].R[k] = val })
			}
		}
		wantState(t, false, p, kind, func(s *impl.State) { s.F = nil })
		wantState(t, false, p, kind, func(s *impl.State) { s.F = s.F[:2] })
		wantState(t, false, p, kind, func(s *impl.State) { s.F = append(s.F, impl.File{R: make([]int, impl.Regs)}) })
	}
}

func TestStateOkCells(t *testing.T) {
	for _, p := range goodProgs() {
		for _, kind := range []int{impl.KdOne, impl.KdBuf} {
			for n := range impl.MaxCells + 2 {
				wantState(t, n == len(p.Init), p, kind, func(s *impl.State) { s.Mem = make([]int, n) })
			}
			for _, val := range farInts {
				wantState(t, true, p, kind, func(s *impl.State) { s.Mem[len(p.Init)-1] = val })
			}
		}
	}
}

func TestStateOkNotNeeded(t *testing.T) {
	type part struct {
		kinds  []int // those that do not need it
		change func(s *impl.State)
	}
	views := []int{impl.KdOne, impl.KdBuf}
	for k, x := range []part{
		{[]int{impl.KdView}, func(s *impl.State) { s.Mem = []int{0} }},
		{[]int{impl.KdView}, func(s *impl.State) { s.Mem = make([]int, 4) }},
		{[]int{impl.KdOne, impl.KdView}, func(s *impl.State) { s.Bufs = make([]impl.Buf, 1) }},
		{[]int{impl.KdOne, impl.KdView}, func(s *impl.State) { s.Bufs = make([]impl.Buf, 3) }},
		{[]int{impl.KdOne, impl.KdView}, func(s *impl.State) { s.Bufs = []impl.Buf{{}, {L: make([]impl.Wait, 1)}, {}} }},
		{views, func(s *impl.State) { s.H = make([]impl.Hist, 1) }},
		{views, func(s *impl.State) { s.H = wantedStart(sample(), impl.KdView).H }},
		{views, func(s *impl.State) { s.View = make([]impl.File, 1) }},
		{views, func(s *impl.State) { s.View = wantedStart(sample(), impl.KdView).View }},
		{views, func(s *impl.State) { s.Sc = []int{0} }},
		{views, func(s *impl.State) { s.Sc = []int{0, 1, 2, 3} }},
		{views, func(s *impl.State) { s.Next = 1 }},
		{views, func(s *impl.State) { s.Next = 4 }},
		{views, func(s *impl.State) { s.Next = -1 }},
		{views, func(s *impl.State) { s.Next = math.MinInt }},
	} {
		for _, kind := range x.kinds {
			if changed(t, sample(), kind, x.change) {
				t.Errorf("number %d: kind %d does not need that", k, kind)
			}
		}
	}
}

func TestStateOkEmptyIsNil(t *testing.T) {
	for _, kind := range []int{impl.KdOne, impl.KdBuf} {
		wantState(t, true, sample(), kind, func(s *impl.State) {
			s.H, s.View, s.Sc = []impl.Hist{}, []impl.File{}, []int{}
		})
	}
	for _, kind := range []int{impl.KdOne, impl.KdView} {
		wantState(t, true, sample(), kind, func(s *impl.State) { s.Bufs = []impl.Buf{} })
	}
	wantState(t, true, sample(), impl.KdView, func(s *impl.State) { s.Mem = []int{} })
	wantState(t, true, sample(), impl.KdBuf, func(s *impl.State) { s.Bufs[0].L = []impl.Wait{} })
}

func TestStateOkBuffers(t *testing.T) {
	p := sample()
	for n := range impl.MaxThreads + 2 {
		wantState(t, n == len(p.T), p, impl.KdBuf, func(s *impl.State) { s.Bufs = make([]impl.Buf, n) })
	}
	for k := range p.T {
		for n := range 2*impl.MaxBuf + 2 {
			wantState(t, n <= impl.MaxBuf, p, impl.KdBuf, func(s *impl.State) { s.Bufs[k].L = make([]impl.Wait, n) })
		}
		for at := range impl.MaxBuf {
			for _, x := range append([]int{0, 3, 4, 5}, farInts...) {
				wantState(t, x == 0 || x == 3, p, impl.KdBuf, func(s *impl.State) {
					s.Bufs[k].L = make([]impl.Wait, impl.MaxBuf)
					s.Bufs[k].L[at] = impl.Wait{X: x, Val: math.MinInt}
				})
			}
		}
	}
	wantState(t, true, p, impl.KdBuf, func(s *impl.State) {
		for k := range s.Bufs {
			s.Bufs[k].L = slices.Repeat([]impl.Wait{{X: 3, Val: math.MaxInt}}, impl.MaxBuf)
		}
	})
}

// ended is a state of that kind in which no thread has an instruction left.
func ended(t *testing.T, p impl.Prog, kind int) impl.State {
	t.Helper()
	s := started(t, p, kind)
	for k := range p.T {
		s.Pc[k] = len(p.T[k].L)
	}
	return s
}

func TestDone(t *testing.T) {
	for _, p := range goodProgs() {
		for _, kind := range kinds {
			if !impl.Done(p, ended(t, p, kind)) {
				t.Errorf("kind %d is not done: %+v", kind, p)
			}
			for k := range p.T {
				for pc := -1; pc <= len(p.T[k].L)+1; pc++ {
					s := ended(t, p, kind)
					s.Pc[k] = pc
					if impl.Done(p, s) != (pc == len(p.T[k].L)) {
						t.Errorf("kind %d: thread %d at %d of %d", kind, k, pc, len(p.T[k].L))
					}
				}
			}
		}
	}
}

func TestDoneStart(t *testing.T) {
	p := impl.Prog{Init: []int{1}, T: make([]impl.Thread, impl.MaxThreads)}
	for _, kind := range kinds {
		if !impl.Done(p, started(t, p, kind)) {
			t.Errorf("kind %d: threads without instructions are not done", kind)
		}
		if impl.Done(sample(), started(t, sample(), kind)) {
			t.Errorf("kind %d: a start is done", kind)
		}
	}
}

func TestDoneBuffers(t *testing.T) {
	p := sample()
	for k := range p.T {
		for n := range impl.MaxBuf + 2 {
			s := ended(t, p, impl.KdBuf)
			s.Bufs[k].L = make([]impl.Wait, n)
			if impl.Done(p, s) != (n == 0) {
				t.Errorf("done with %d Waits in buffer %d", n, k)
			}
		}
	}
}

func TestDoneNoState(t *testing.T) {
	for _, kind := range kinds {
		for k, change := range []func(s *impl.State){
			func(s *impl.State) { s.Kind = 3 },
			func(s *impl.State) { s.Kind = -1 },
			func(s *impl.State) { s.Pc = s.Pc[:1] },
			func(s *impl.State) { s.F = nil },
			func(s *impl.State) { s.F[2].R = s.F[2].R[:5] },
			func(s *impl.State) { s.Mem = append(s.Mem, 0) },
			func(s *impl.State) { s.Bufs = append(s.Bufs, impl.Buf{}) },
			func(s *impl.State) { s.H = append(s.H, impl.Hist{}) },
			func(s *impl.State) { s.View = append(s.View, impl.File{}) },
			func(s *impl.State) { s.Sc = append(s.Sc, 0) },
			func(s *impl.State) { s.Next-- },
		} {
			s := ended(t, sample(), kind)
			change(&s)
			if impl.StateOk(sample(), s) || impl.Done(sample(), s) {
				t.Errorf("kind %d, change %d: done, though it is no state", kind, k)
			}
		}
	}
}

func TestStatesAreNotChanged(t *testing.T) {
	for _, p := range append(goodProgs(), badProgs()...) {
		for _, kind := range append(kinds[:3:3], 3) {
			roomyProg, roomy := withRoom(p), withRoom(wantedStart(sample(), kind))
			progBefore, before := deepCopy(roomyProg), deepCopy(roomy)
			impl.StateOk(roomyProg, roomy)
			impl.Done(roomyProg, roomy)
			if !wholeSame(roomyProg, progBefore) || !wholeSame(roomy, before) {
				t.Fatalf("StateOk or Done changed an argument of kind %d", kind)
			}
		}
	}
}
