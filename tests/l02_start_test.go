package tests

import (
	"testing"

	"loop.example/g00713/impl"
)

func TestStateConstants(t *testing.T) {
	if impl.KdOne != 0 || impl.KdBuf != 1 || impl.KdView != 2 || impl.MaxBuf != 4 || impl.MvStep != 0 || impl.MvFlush != 1 {
		t.Error("a constant is not as the document says")
	}
}

// wantedStart is the document's start, written out once more.
func wantedStart(p impl.Prog, kind int) impl.State {
	s := impl.State{Kind: kind, Pc: make([]int, len(p.T))}
	for range p.T {
		s.F = append(s.F, impl.File{R: []int{0, 0, 0, 0, 0, 0}})
	}
	switch kind {
	case impl.KdBuf:
		s.Bufs = make([]impl.Buf, len(p.T))
		fallthrough
	case impl.KdOne:
		s.Mem = append(s.Mem, p.Init...)
		return s
	}
	ids := []int{0, 1, 2, 3, 4, 5}[:len(p.Init)]
	for x, val := range p.Init {
		s.H = append(s.H, impl.Hist{L: []impl.Post{{Id: x, Val: val, View: ids}}})
	}
	for range p.T {
		s.View = append(s.View, impl.File{R: ids})
	}
	s.Sc, s.Next = ids, len(ids)
	return s
}

func TestStart(t *testing.T) {
	for _, p := range goodProgs() {
		for _, kind := range kinds {
			if s := started(t, p, kind); !sameValue(s, wantedStart(p, kind)) {
				t.Fatalf("the start of kind %d for %+v is %+v", kind, p, s)
			}
		}
	}
}

func TestStartWrittenOut(t *testing.T) {
	p := impl.Prog{Init: []int{7, -8}, T: []impl.Thread{fences(1)}}
	regs := []impl.File{{R: make([]int, 6)}}
	for kind, want := range []impl.State{
		{Kind: 0, Pc: []int{0}, F: regs, Mem: []int{7, -8}},
		{Kind: 1, Pc: []int{0}, F: regs, Mem: []int{7, -8}, Bufs: []impl.Buf{{}}},
		{Kind: 2, Pc: []int{0}, F: regs, H: []impl.Hist{
			{L: []impl.Post{{Id: 0, Val: 7, View: []int{0, 1}}}}, {L: []impl.Post{{Id: 1, Val: -8, View: []int{0, 1}}}},
		}, View: []impl.File{{R: []int{0, 1}}}, Sc: []int{0, 1}, Next: 2},
	} {
		if s := started(t, p, kind); !sameValue(s, want) {
			t.Errorf("the start is %+v, want %+v", s, want)
		}
	}
}

func TestStartRefused(t *testing.T) {
	refused := func(p impl.Prog, kind int) {
		t.Helper()
		if s, ok := impl.Start(p, kind); ok || !sameValue(s, impl.State{}) {
			t.Errorf("the start of kind %d for %+v is %+v, %v", kind, p, s, ok)
		}
	}
	for _, p := range badProgs() {
		for _, kind := range append(kinds[:3:3], strangeKinds...) {
			refused(p, kind)
		}
	}
	for _, p := range goodProgs() {
		for _, kind := range strangeKinds {
			refused(p, kind)
		}
	}
}

// readsAtStart tells what a thread reads of a cell when nothing has happened.
func readsAtStart(s impl.State, thread int, x int) []int {
	if s.Kind != impl.KdView {
		return []int{s.Mem[x]}
	}
	var out []int
	for _, post := range s.H[x].L {
		if post.Id == s.View[thread].R[x] || len(out) > 0 {
			out = append(out, post.Val)
		}
	}
	return out
}

func TestStartIsAState(t *testing.T) {
	for _, p := range goodProgs() {
		for _, kind := range kinds {
			s := started(t, p, kind)
			if !impl.StateOk(p, s) {
				t.Fatalf("the start of kind %d for %+v is no state", kind, p)
			}
			for thread := range p.T {
				for x, val := range p.Init {
					if got := readsAtStart(s, thread, x); len(got) != 1 || got[0] != val {
						t.Fatalf("kind %d: thread %d reads %v of cell %d, which begins with %d", kind, thread, got, x, val)
					}
				}
			}
		}
	}
}

func TestStartIsNewMemory(t *testing.T) {
	for _, p := range append(goodProgs(), badProgs()...) {
		for _, kind := range append(kinds[:3:3], 3, -1) {
			roomy := withRoom(p)
			before := deepCopy(roomy)
			s, _ := impl.Start(roomy, kind)
			if sharesMemory(s, roomy) {
				t.Fatalf("the start of kind %d for %+v shares memory", kind, p)
			}
			if !wholeSame(roomy, before) {
				t.Fatalf("the start of kind %d changed %+v", kind, p)
			}
		}
	}
}

func TestStartTwice(t *testing.T) {
	for _, kind := range kinds {
		a := started(t, sample(), kind)
		kept := deepCopy(a)
		b := started(t, sample(), kind)
		if !sameValue(a, b) || sharesMemory(a, b) {
			t.Errorf("two starts of kind %d are %+v and %+v", kind, a, b)
		}
		b.Pc[0], b.F[0].R[0] = 5, 5
		if !sameValue(a, kept) {
			t.Errorf("kind %d: a start is not its own", kind)
		}
	}
}
