package tests

import (
	"testing"

	"loop.example/g00713/impl"
)

func insSet(r int, n int) impl.Ins {
	return impl.Ins{Op: impl.InSet, R: r, N: n}
}

func insLoad(r int, x int) impl.Ins {
	return impl.Ins{Op: impl.InLoad, R: r, X: x}
}

func insStore(x int, a int) impl.Ins {
	return impl.Ins{Op: impl.InStore, X: x, A: a}
}

func insLoadAt(r int, x int, a int, n int) impl.Ins {
	return impl.Ins{Op: impl.InLoadAt, R: r, X: x, A: a, N: n}
}

func insStoreAt(x int, a int, n int, b int) impl.Ins {
	return impl.Ins{Op: impl.InStoreAt, X: x, A: a, N: n, B: b}
}

func insCas(r int, x int, a int, b int) impl.Ins {
	return impl.Ins{Op: impl.InCas, R: r, X: x, A: a, B: b}
}

func insZero(a int, n int) impl.Ins {
	return impl.Ins{Op: impl.InZero, A: a, N: n}
}

func insJump(n int) impl.Ins {
	return impl.Ins{Op: impl.InJump, N: n}
}

var insFence = impl.Ins{Op: impl.InFence}

// row is a thread's instructions.
func row(l ...impl.Ins) impl.Thread {
	return impl.Thread{L: l}
}

func progOf(init []int, threads ...impl.Thread) impl.Prog {
	return impl.Prog{Init: init, T: threads}
}

func step(t int, c int) impl.Move {
	return impl.Move{T: t, Kind: impl.MvStep, C: c}
}

func flush(t int) impl.Move {
	return impl.Move{T: t, Kind: impl.MvFlush}
}

// steps are the moves MvStep of a thread with these C.
func steps(t int, cs ...int) []impl.Move {
	var out []impl.Move
	for _, c := range cs {
		out = append(out, step(t, c))
	}
	return out
}

// after is a copy of a state with a change.
func after(s impl.State, change func(s *impl.State)) impl.State {
	s = deepCopy(s)
	change(&s)
	return s
}

// startedWith is the start with a change, which is a state, too.
func startedWith(t *testing.T, p impl.Prog, kind int, change func(s *impl.State)) impl.State {
	t.Helper()
	s := after(started(t, p, kind), change)
	if !impl.StateOk(p, s) {
		t.Fatalf("no state of %+v: %+v", p, s)
	}
	return s
}

func wantMoves(t *testing.T, p impl.Prog, s impl.State, want ...impl.Move) {
	t.Helper()
	if got := impl.Moves(p, s); !sameValue(got, want) {
		t.Errorf("the moves of %+v are %v, want %v", s, got, want)
	}
}

// wantDo holds the state behind a move against the one ahead of it with a
// change, and gives it.
func wantDo(t *testing.T, p impl.Prog, s impl.State, m impl.Move, change func(s *impl.State)) impl.State {
	t.Helper()
	want := after(s, change)
	got, ok := impl.Do(p, s, m)
	if !ok || !sameValue(got, want) {
		t.Fatalf("%v: %v,\n%+v becomes\n%+v, want\n%+v", m, ok, s, got, want)
	}
	return got
}

func refusesMove(t *testing.T, p impl.Prog, s impl.State, m impl.Move) {
	t.Helper()
	if got, ok := impl.Do(p, s, m); ok || !sameValue(got, impl.State{}) {
		t.Errorf("%v of %+v is done: %+v, %v", m, s, got, ok)
	}
}

// noStates are what is no state of the program, of all kinds.
func noStates(t *testing.T, p impl.Prog) []impl.State {
	t.Helper()
	out := []impl.State{{}}
	for _, kind := range kinds {
		s := started(t, p, kind)
		for _, change := range []func(s *impl.State){
			func(s *impl.State) { s.Kind = 3 },
			func(s *impl.State) { s.Kind = -1 },
			func(s *impl.State) { s.Kind = (s.Kind + 1) % 3 },
			func(s *impl.State) { s.Pc[0] = -1 },
			func(s *impl.State) { s.Pc[0] = len(p.T[0].L) + 1 },
			func(s *impl.State) { s.Pc = s.Pc[1:] },
			func(s *impl.State) { s.F = append(s.F, s.F[0]) },
			func(s *impl.State) { s.F[0].R = s.F[0].R[1:] },
			func(s *impl.State) { s.Mem = append(s.Mem, 0) },
			func(s *impl.State) { s.Bufs = append(s.Bufs, impl.Buf{}) },
			func(s *impl.State) { s.H = append(s.H, impl.Hist{}) },
			func(s *impl.State) { s.View = append(s.View, impl.File{}) },
			func(s *impl.State) { s.Sc = append(s.Sc, 0) },
			func(s *impl.State) { s.Next += maxNext + 1 },
			func(s *impl.State) { s.Next = -1 },
		} {
			bad := after(s, change)
			if impl.StateOk(p, bad) {
				t.Fatalf("a state of %+v: %+v", p, bad)
			}
			out = append(out, bad)
		}
	}
	return out
}
