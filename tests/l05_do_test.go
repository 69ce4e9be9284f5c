package tests

import (
	"math"
	"slices"
	"testing"

	"loop.example/g00713/impl"
)

// byRegisters is what an instruction of registers alone does to registers
// that are 3, 4, 5, 6, 7, 8, and the number of the next one.
var byRegisters = []struct {
	i   impl.Ins
	r   int
	val int
	pc  int
}{
	{insSet(2, -9), 2, -9, 1},
	{impl.Ins{Op: impl.InMov, R: 0, A: 5}, 0, 8, 1},
	{impl.Ins{Op: impl.InAdd, R: 1, A: 1, B: 2}, 1, 9, 1},
	{impl.Ins{Op: impl.InSub, R: 3, A: 0, B: 5}, 3, -5, 1},
	{impl.Ins{Op: impl.InLess, R: 4, A: 0, B: 1}, 4, 1, 1},
	{impl.Ins{Op: impl.InSame, R: 5, A: 0, B: 1}, 5, 0, 1},
	{insZero(1, 3), 0, 3, 1},
	{insJump(3), 0, 3, 3},
	{insJump(2), 0, 3, 2},
}

func threeToEight(s *impl.State) {
	for k := range s.F {
		s.F[k].R = []int{3, 4, 5, 6, 7, 8}
	}
}

func TestDoInRegisters(t *testing.T) {
	for _, x := range byRegisters {
		p := progOf([]int{7, 8}, row(insLoad(0, 0)), row(x.i, insFence, insFence))
		for _, kind := range kinds {
			s := startedWith(t, p, kind, threeToEight)
			if kind == impl.KdBuf {
				s.Bufs = []impl.Buf{waits(0, 1), waits(1, 2, 1, 3)}
			}
			wantDo(t, p, s, step(1, 0), func(s *impl.State) { s.Pc[1], s.F[1].R[x.r] = x.pc, x.val })
		}
	}
}

func TestDoJumpWhereZero(t *testing.T) {
	p := progOf([]int{7}, row(insZero(4, 3), insFence, insFence))
	for _, kind := range kinds {
		wantDo(t, p, started(t, p, kind), step(0, 0), func(s *impl.State) { s.Pc[0] = 3 })
		for _, val := range append([]int{1}, farInts...) {
			s := startedWith(t, p, kind, func(s *impl.State) { s.F[0].R[4] = val })
			wantDo(t, p, s, step(0, 0), func(s *impl.State) { s.Pc[0] = 1 })
		}
	}
}

// memProg has a thread ahead of the one that does the instruction, so that
// there is more than one of all.
func memProg(i impl.Ins) impl.Prog {
	return progOf([]int{7, 8, 9, 5}, row(insLoad(0, 0)), row(insFence, i))
}

func memState(t *testing.T, i impl.Ins, kind int) impl.State {
	t.Helper()
	return startedWith(t, memProg(i), kind, func(s *impl.State) {
		threeToEight(s)
		s.Pc[1] = 1
	})
}

func TestDoOne(t *testing.T) {
	do := func(i impl.Ins, change func(s *impl.State)) {
		t.Helper()
		wantDo(t, memProg(i), memState(t, i, impl.KdOne), step(1, 0), func(s *impl.State) {
			s.Pc[1] = 2
			change(s)
		})
	}
	do(insLoad(2, 1), func(s *impl.State) { s.F[1].R[2] = 8 })
	do(insLoadAt(1, 1, 1, 3), func(s *impl.State) { s.F[1].R[1] = 9 })
	do(insLoadAt(0, 0, 3, 4), func(s *impl.State) { s.F[1].R[0] = 9 })
	do(insStore(2, 3), func(s *impl.State) { s.Mem[2] = 6 })
	do(insStoreAt(1, 2, 3, 0), func(s *impl.State) { s.Mem[3] = 3 })
	do(insStoreAt(0, 3, 2, 3), func(s *impl.State) { s.Mem[0] = 6 })
	do(insCas(1, 3, 2, 4), func(s *impl.State) { s.Mem[3], s.F[1].R[1] = 7, 1 })
	do(insCas(1, 2, 2, 4), func(s *impl.State) { s.F[1].R[1] = 0 })
	do(insFence, func(s *impl.State) {})
}

// The register that InCas tells in may be one that it goes by.
func TestDoCasItsOwnRegisters(t *testing.T) {
	for _, x := range []struct {
		i   impl.Ins
		mem int
		r   int
		was int
	}{
		{insCas(2, 3, 2, 4), 7, 2, 1}, {insCas(4, 3, 2, 4), 7, 4, 1}, {insCas(2, 3, 2, 2), 5, 2, 1},
		{insCas(3, 3, 3, 4), 5, 3, 0}, {insCas(4, 3, 3, 4), 5, 4, 0},
	} {
		for _, kind := range []int{impl.KdOne, impl.KdBuf} {
			wantDo(t, memProg(x.i), memState(t, x.i, kind), step(1, 0), func(s *impl.State) {
				s.Pc[1], s.Mem[3], s.F[1].R[x.r] = 2, x.mem, x.was
			})
		}
	}
	for _, i := range []impl.Ins{insCas(2, 3, 2, 4), insCas(4, 3, 2, 4)} {
		wantDo(t, memProg(i), memState(t, i, impl.KdView), step(1, 0), func(s *impl.State) {
			s.Pc[1], s.F[1].R[i.R], s.View[1].R[3], s.Next = 2, 1, 4, 5
			s.H[3].L = append(s.H[3].L, impl.Post{Id: 4, Val: 7, Glue: true, View: []int{0, 1, 2, 4}})
		})
	}
}

func TestDoBuffers(t *testing.T) {
	bufs := []impl.Buf{waits(1, 60, 2, 61), waits(0, 70, 1, 71, 0, 72)}
	do := func(i impl.Ins, change func(s *impl.State)) {
		t.Helper()
		s := after(memState(t, i, impl.KdBuf), func(s *impl.State) { s.Bufs = bufs })
		wantDo(t, memProg(i), s, step(1, 0), func(s *impl.State) {
			s.Pc[1] = 2
			change(s)
		})
	}
	put := func(s *impl.State, x int, val int) {
		s.Bufs[1].L = append(s.Bufs[1].L, impl.Wait{X: x, Val: val})
	}
	do(insLoad(2, 0), func(s *impl.State) { s.F[1].R[2] = 72 })
	do(insLoad(2, 1), func(s *impl.State) { s.F[1].R[2] = 71 })
	do(insLoad(2, 2), func(s *impl.State) { s.F[1].R[2] = 9 })
	do(insLoadAt(1, 0, 2, 2), func(s *impl.State) { s.F[1].R[1] = 71 })
	do(insLoadAt(1, 0, 5, 4), func(s *impl.State) { s.F[1].R[1] = 72 })
	do(insLoadAt(1, 2, 5, 2), func(s *impl.State) { s.F[1].R[1] = 9 })
	do(insStore(0, 5), func(s *impl.State) { put(s, 0, 8) })
	do(insStore(3, 0), func(s *impl.State) { put(s, 3, 3) })
	do(insStoreAt(1, 0, 3, 5), func(s *impl.State) { put(s, 1, 8) })
	do(insStoreAt(0, 2, 4, 2), func(s *impl.State) { put(s, 1, 5) })
}

// What waits in another thread's buffer is no matter to InCas and InFence.
func TestDoBuffersOfOthers(t *testing.T) {
	for _, x := range []struct {
		i   impl.Ins
		mem int
		r   int
	}{{insCas(1, 3, 2, 4), 7, 1}, {insCas(1, 3, 3, 4), 5, 0}, {insFence, 5, 4}} {
		s := after(memState(t, x.i, impl.KdBuf), func(s *impl.State) { s.Bufs[0] = waits(3, 6, 3, 1, 0, 2, 3, 4) })
		wantDo(t, memProg(x.i), s, step(1, 0), func(s *impl.State) {
			s.Pc[1], s.Mem[3], s.F[1].R[1] = 2, x.mem, x.r
		})
	}
}

func TestDoBuffersFill(t *testing.T) {
	p := progOf([]int{7, 8}, row(insStore(0, 1), insStoreAt(0, 2, 2, 3), insStore(0, 4), insStore(1, 5), insStore(0, 0)), row())
	s := startedWith(t, p, impl.KdBuf, threeToEight)
	for k, wait := range waits(0, 4, 1, 6, 0, 7, 1, 8).L {
		s = wantDo(t, p, s, step(0, 0), func(s *impl.State) {
			s.Pc[0] = k + 1
			s.Bufs[0].L = append(s.Bufs[0].L, wait)
		})
	}
	refusesMove(t, p, s, step(0, 0))
	s = wantDo(t, p, s, flush(0), func(s *impl.State) { s.Bufs[0], s.Mem = waits(1, 6, 0, 7, 1, 8), []int{4, 8} })
	s = wantDo(t, p, s, flush(0), func(s *impl.State) { s.Bufs[0], s.Mem = waits(0, 7, 1, 8), []int{4, 6} })
	s = wantDo(t, p, s, step(0, 0), func(s *impl.State) { s.Bufs[0], s.Pc[0] = waits(0, 7, 1, 8, 0, 3), 5 })
	for _, mem := range [][]int{{7, 6}, {7, 8}, {3, 8}} {
		s = wantDo(t, p, s, flush(0), func(s *impl.State) { s.Bufs[0].L, s.Mem = s.Bufs[0].L[1:], mem })
	}
	refusesMove(t, p, s, flush(0))
	if !impl.Done(p, s) {
		t.Error("not done")
	}
}

func TestDoFlushOfOneThread(t *testing.T) {
	p := progOf([]int{7, 8}, row(insFence), row(), row(insLoad(0, 0)))
	s := startedWith(t, p, impl.KdBuf, func(s *impl.State) { s.Bufs = []impl.Buf{waits(0, 1), waits(1, 2, 0, 3), waits(0, 4)} })
	wantDo(t, p, s, flush(0), func(s *impl.State) { s.Bufs[0], s.Mem[0] = waits(), 1 })
	wantDo(t, p, s, flush(1), func(s *impl.State) { s.Bufs[1], s.Mem[1] = waits(0, 3), 2 })
	wantDo(t, p, s, flush(2), func(s *impl.State) { s.Bufs[2], s.Mem[0] = waits(), 4 })
	refusesMove(t, p, s, step(0, 0))
}

// viewed is written with the threads of writtenProg at these instructions, and
// with registers 3 to 8.
func viewed(t *testing.T, pc0 int, pc1 int) impl.State {
	t.Helper()
	s := after(written(), func(s *impl.State) { s.Pc = []int{pc0, pc1} })
	threeToEight(&s)
	if !impl.StateOk(writtenProg(), s) {
		t.Fatal("no state")
	}
	return s
}

// Who reads a post knows of what its View says, of other cells, too, but
// forgets nothing.
func TestDoViewLoads(t *testing.T) {
	p := writtenProg()
	wantDo(t, p, viewed(t, 0, 4), step(0, 2), func(s *impl.State) { s.Pc[0], s.F[0].R[0] = 1, -1 })
	s := after(viewed(t, 4, 0), func(s *impl.State) { s.F[1].R[1] = 6 })
	wantDo(t, p, s, step(1, 0), func(s *impl.State) { s.Pc[1], s.F[1].R[0], s.View[1].R = 1, 7, []int{0, 1, 2} })
	wantDo(t, p, s, step(1, 1), func(s *impl.State) { s.Pc[1], s.F[1].R[0], s.View[1].R = 1, 5, []int{3, 1, 2} })
	s.F[1].R[1] = 7
	wantDo(t, p, s, step(1, 0), func(s *impl.State) { s.Pc[1], s.F[1].R[0], s.View[1].R = 1, 8, []int{0, 1, 2} })
	s.F[1].R[1] = -1
	wantDo(t, p, s, step(1, 0), func(s *impl.State) { s.Pc[1], s.F[1].R[0], s.View[1].R = 1, 1, []int{3, 1, 5} })
	wantDo(t, p, s, step(1, 1), func(s *impl.State) { s.Pc[1], s.F[1].R[0], s.View[1].R = 1, 9, []int{0, 1, 2} })
	wantDo(t, p, s, step(1, 2), func(s *impl.State) { s.Pc[1], s.F[1].R[0], s.View[1].R = 1, -1, []int{0, 1, 4} })
	s.View[1].R[0] = 3
	wantDo(t, p, s, step(1, 2), func(s *impl.State) { s.Pc[1], s.F[1].R[0], s.View[1].R = 1, -1, []int{3, 1, 4} })
}

func TestDoViewStores(t *testing.T) {
	p := writtenProg()
	wantDo(t, p, viewed(t, 1, 4), step(0, 3), func(s *impl.State) {
		s.Pc[0], s.View[0].R, s.Next = 2, []int{3, 1, 7}, 8
		s.H[2].L = append(s.H[2].L, impl.Post{Id: 7, Val: 3, View: []int{3, 1, 7}})
	})
	s := after(viewed(t, 4, 1), func(s *impl.State) { s.F[1].R[1] = 5 })
	for _, place := range []int{1, 3} {
		wantDo(t, p, s, step(1, place), func(s *impl.State) {
			s.Pc[1], s.View[1].R, s.Next = 2, []int{0, 1, 7}, 8
			s.H[2].L = slices.Insert(s.H[2].L, place, impl.Post{Id: 7, Val: 5, View: []int{0, 1, 7}})
		})
	}
	refusesMove(t, p, s, step(1, 0))
	refusesMove(t, p, s, step(1, 2))
	s.F[1].R[1] = 3
	for _, place := range []int{1, 2} {
		wantDo(t, p, s, step(1, place), func(s *impl.State) {
			s.Pc[1], s.View[1].R, s.Next = 2, []int{7, 1, 5}, 8
			s.H[0].L = slices.Insert(s.H[0].L, place, impl.Post{Id: 7, Val: 5, View: []int{7, 1, 5}})
		})
	}
}

func TestDoViewCas(t *testing.T) {
	p := writtenProg()
	at := func(a int) impl.State {
		return after(viewed(t, 4, 2), func(s *impl.State) { s.F[1].R[1] = a })
	}
	read := func(s *impl.State, r int, view ...int) {
		s.Pc[1], s.F[1].R[0], s.View[1].R = 3, r, view
	}
	put := func(s *impl.State, place int, view ...int) {
		s.Next = 8
		s.H[2].L = slices.Insert(s.H[2].L, place, impl.Post{Id: 7, Val: 5, Glue: true, View: view})
	}
	// What is read is not register A.
	wantDo(t, p, at(6), step(1, 0), func(s *impl.State) { read(s, 0, 3, 1, 5) })
	wantDo(t, p, at(6), step(1, 1), func(s *impl.State) { read(s, 0, 0, 1, 2) })
	wantDo(t, p, at(1), step(1, 2), func(s *impl.State) { read(s, 0, 0, 1, 4) })
	// It is: the post is put right behind what was read, ahead of others, too.
	wantDo(t, p, at(1), step(1, 0), func(s *impl.State) { read(s, 1, 3, 1, 7); put(s, 1, 3, 1, 7) })
	wantDo(t, p, at(-1), step(1, 2), func(s *impl.State) { read(s, 1, 0, 1, 7); put(s, 3, 0, 1, 7) })
	// It is, but another Glue stands there.
	refusesMove(t, p, at(9), step(1, 1))
	refusesMove(t, p, at(9), step(1, 3))
	s := after(at(-1), func(s *impl.State) { s.View[1].R = []int{3, 1, 4} })
	wantDo(t, p, s, step(1, 2), func(s *impl.State) { read(s, 1, 3, 1, 7); put(s, 3, 3, 1, 7) })
	refusesMove(t, p, s, step(1, 0))
	refusesMove(t, p, s, step(1, 1))
}

// Of each cell what stands further back is known behind a fence, to the thread
// and to all fences.
func TestDoViewFences(t *testing.T) {
	p := writtenProg()
	for _, x := range []struct{ view, sc, want []int }{
		{[]int{0, 1, 5}, []int{0, 1, 5}, []int{0, 1, 5}},
		{[]int{0, 1, 5}, []int{3, 1, 4}, []int{3, 1, 4}},
		{[]int{3, 1, 4}, []int{0, 1, 5}, []int{3, 1, 4}},
		{[]int{3, 1, 5}, []int{0, 1, 2}, []int{3, 1, 2}},
		{[]int{0, 1, 4}, []int{3, 1, 2}, []int{3, 1, 4}},
	} {
		for k := range 2 {
			pc := []int{4, 4}
			pc[k] = 3
			s := after(viewed(t, pc[0], pc[1]), func(s *impl.State) {
				s.View[k].R, s.Sc = slices.Clone(x.view), slices.Clone(x.sc)
			})
			s = wantDo(t, p, s, step(k, 0), func(s *impl.State) { s.Pc[k], s.View[k].R, s.Sc = 4, x.want, x.want })
			refusesMove(t, p, s, step(k, 0))
		}
	}
}

// The document has no other answer for a store that brings Next above 1000, so
// what comes is no state, and has no moves.
func TestDoLastNumber(t *testing.T) {
	for _, i := range []impl.Ins{insStore(0, 1), insCas(1, 0, 1, 2)} {
		p := progOf([]int{0}, row(i, i))
		s := startedWith(t, p, impl.KdView, func(s *impl.State) { s.Next = maxNext - 1 })
		c := impl.Moves(p, s)[0].C
		glue := i.Op == impl.InCas
		s = wantDo(t, p, s, step(0, c), func(s *impl.State) {
			s.Pc[0], s.View[0].R[0], s.Next = 1, maxNext-1, maxNext
			if glue {
				s.F[0].R[1] = 1
			}
			s.H[0].L = append(s.H[0].L, impl.Post{Id: maxNext - 1, Glue: glue, View: []int{maxNext - 1}})
		})
		if !impl.StateOk(p, s) {
			t.Fatal("the last number that may be next leads to no state")
		}
		s.F[0].R[1] = 0
		moves := impl.Moves(p, s)
		s, ok := impl.Do(p, s, moves[len(moves)-1])
		if !ok || s.Next != maxNext+1 || impl.StateOk(p, s) {
			t.Fatalf("%v, %v", s, ok)
		}
		wantMoves(t, p, s)
	}
}

// nearMoves are moves of which some are of a state and others are not.
func nearMoves() []impl.Move {
	var out []impl.Move
	numbers := append([]int{0, 1, 2, 3, 4}, farInts...)
	for _, thread := range numbers {
		for _, kind := range numbers {
			for _, c := range append(numbers, math.MaxInt/2) {
				out = append(out, impl.Move{T: thread, Kind: kind, C: c})
			}
		}
	}
	return out
}

// What is none of Moves is not done, and all of Moves are.
func TestDoMovesAlone(t *testing.T) {
	p := writtenProg()
	states := []impl.State{viewed(t, 0, 0), viewed(t, 1, 1), viewed(t, 2, 2), viewed(t, 3, 3), viewed(t, 4, 4)}
	for pc := range 5 {
		for n := range impl.MaxBuf + 1 {
			states = append(states, startedWith(t, p, impl.KdBuf, func(s *impl.State) {
				s.Pc, s.Bufs = []int{pc, 4 - pc}, []impl.Buf{bufOf(n), bufOf(impl.MaxBuf - n)}
			}))
		}
		states = append(states, startedWith(t, p, impl.KdOne, func(s *impl.State) { s.Pc = []int{pc, 4 - pc} }))
	}
	for _, s := range states {
		moves, n := impl.Moves(p, s), 0
		for _, m := range nearMoves() {
			if !slices.Contains(moves, m) {
				refusesMove(t, p, s, m)
			} else if _, ok := impl.Do(p, s, m); ok {
				n++
			}
		}
		if n != len(moves) {
			t.Errorf("%d of the moves %v of %+v are done", n, moves, s)
		}
	}
}

func TestDoQuietAlone(t *testing.T) {
	p := progOf([]int{7}, row(insLoad(0, 0)), row(insSet(0, 1)), row(insSet(0, 1)))
	for _, kind := range kinds {
		s := started(t, p, kind)
		if kind == impl.KdBuf {
			s.Bufs = []impl.Buf{waits(0, 1), waits(0, 1), waits(0, 1)}
		}
		for _, m := range nearMoves() {
			if m != step(1, 0) {
				refusesMove(t, p, s, m)
			}
		}
	}
}

func TestDoOfNoState(t *testing.T) {
	p := progOf([]int{7, 8}, row(insLoad(0, 0), insStore(1, 0)), row(insFence))
	for _, s := range noStates(t, p) {
		for _, m := range []impl.Move{step(0, 0), step(0, 1), step(1, 0), flush(0), flush(1)} {
			refusesMove(t, p, s, m)
		}
	}
	for _, kind := range kinds {
		for _, bad := range badProgs() {
			refusesMove(t, bad, started(t, p, kind), step(0, 0))
			refusesMove(t, bad, impl.State{Kind: kind}, step(0, 0))
		}
	}
}
