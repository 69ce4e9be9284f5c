package tests

import (
	"testing"

	"loop.example/g00713/impl"
)

// At the start there is one move for each Op, by each kind; a store has its
// place behind the one post that there is.
func TestMovesEachOp(t *testing.T) {
	for op := impl.InSet; op <= impl.InJump; op++ {
		p := progOf(make([]int, fullCells), row(insFence, full(op), insFence))
		for _, kind := range kinds {
			s := startedWith(t, p, kind, func(s *impl.State) { s.Pc[0] = fullAt })
			c := 0
			if kind == impl.KdView && (op == impl.InStore || op == impl.InStoreAt) {
				c = 1
			}
			wantMoves(t, p, s, step(0, c))
		}
	}
}

var registerOps = []int{impl.InSet, impl.InMov, impl.InAdd, impl.InSub, impl.InLess, impl.InSame, impl.InZero, impl.InJump}

// What each of three threads does next: an instruction of registers alone, a
// load, a fence, or nothing.
const (
	nextQuiet = iota
	nextLoad
	nextFence
	nextNone
	nextCount
)

func threadWithNext(next int, op int) impl.Thread {
	switch next {
	case nextQuiet:
		return row(full(op), insLoad(0, 0))
	case nextLoad:
		return row(insLoad(0, 0), insSet(0, 1))
	case nextFence:
		return row(insFence, insSet(0, 1))
	default:
		return row()
	}
}

// movesByNext is the document's rule for threads whose buffers are empty.
func movesByNext(nexts [3]int) []impl.Move {
	for k, next := range nexts {
		if next == nextQuiet {
			return steps(k, 0)
		}
	}
	var out []impl.Move
	for k, next := range nexts {
		if next != nextNone {
			out = append(out, step(k, 0))
		}
	}
	return out
}

func TestMovesLeastQuietAlone(t *testing.T) {
	for _, op := range registerOps {
		for k := range nextCount * nextCount * nextCount {
			nexts := [3]int{k % nextCount, k / nextCount % nextCount, k / nextCount / nextCount}
			p := progOf([]int{7})
			for _, next := range nexts {
				p.T = append(p.T, threadWithNext(next, op))
			}
			for _, kind := range kinds {
				wantMoves(t, p, started(t, p, kind), movesByNext(nexts)...)
			}
		}
	}
}

// What waits is not let go either, as long as an instruction of registers
// alone is next.
func TestMovesQuietAheadOfFlush(t *testing.T) {
	p := progOf([]int{7}, row(insLoad(0, 0)), row(), row(insLoad(0, 0), insSet(1, 1)))
	s := startedWith(t, p, impl.KdBuf, func(s *impl.State) {
		s.Pc[2] = 1
		s.Bufs = []impl.Buf{waits(0, 1), waits(0, 2), waits(0, 3)}
	})
	wantMoves(t, p, s, step(2, 0))
	s.Pc[2] = 2
	wantMoves(t, p, s, step(0, 0), flush(0), flush(1), flush(2))
	s.Pc[2] = 0
	wantMoves(t, p, s, step(0, 0), flush(0), flush(1), step(2, 0), flush(2))
}

func TestMovesNoneLeft(t *testing.T) {
	p := sample()
	for _, kind := range kinds {
		s := startedWith(t, p, kind, func(s *impl.State) { s.Pc = []int{len(p.T[0].L), 0, 2} })
		wantMoves(t, p, s)
		s.Pc[2] = 1
		wantMoves(t, p, s, step(2, 0))
	}
	s := startedWith(t, p, impl.KdBuf, func(s *impl.State) {
		s.Pc = []int{len(p.T[0].L), 0, 2}
		s.Bufs[1] = waits(3, 1)
	})
	wantMoves(t, p, s, flush(1))
	s.Bufs[0], s.Bufs[2] = waits(0, 1, 0, 2, 0, 3, 0, 4), waits(1, 1)
	wantMoves(t, p, s, flush(0), flush(1), flush(2))
}

func bufOf(n int) impl.Buf {
	b := impl.Buf{}
	for k := range n {
		b.L = append(b.L, impl.Wait{X: k % 2, Val: 20 + k})
	}
	return b
}

// mayStep tells whether an Op goes on with so many Waits in the thread's buffer.
func mayStep(op int, waits int) bool {
	switch op {
	case impl.InStore, impl.InStoreAt:
		return waits < 4
	case impl.InCas, impl.InFence:
		return waits == 0
	default:
		return true
	}
}

func TestMovesBuffers(t *testing.T) {
	for _, op := range append(memoryOps[:len(memoryOps):len(memoryOps)], impl.InFence) {
		p := progOf([]int{1, 2, 3, 4}, row(full(op)), row(full(op)))
		for n := range impl.MaxBuf + 1 {
			for other := range impl.MaxBuf + 1 {
				s := startedWith(t, p, impl.KdBuf, func(s *impl.State) { s.Bufs = []impl.Buf{bufOf(n), bufOf(other)} })
				var want []impl.Move
				for k, waits := range []int{n, other} {
					if mayStep(op, waits) {
						want = append(want, step(k, 0))
					}
					if waits > 0 {
						want = append(want, flush(k))
					}
				}
				wantMoves(t, p, s, want...)
			}
		}
	}
}

// cellState is a state of one cell and one thread, whose history has these Vals,
// and whose thread knows of the post at the place known. Ids go down, so that
// they are no places.
func cellState(t *testing.T, p impl.Prog, known int, vals []int, glue ...int) impl.State {
	t.Helper()
	return startedWith(t, p, impl.KdView, func(s *impl.State) {
		h := impl.Hist{}
		for place, val := range vals {
			id := len(vals) - place
			h.L = append(h.L, impl.Post{Id: id, Val: val, View: []int{id}})
		}
		s.H = []impl.Hist{glued(h, glue...)}
		s.View[0].R[0] = len(vals) - known
		s.Sc[0] = 1
		s.Next = len(vals) + 1
	})
}

func TestMovesViewLoads(t *testing.T) {
	for _, i := range []impl.Ins{insLoad(1, 0), insLoadAt(1, 0, 2, 1)} {
		p := progOf([]int{0}, row(i))
		wantMoves(t, p, cellState(t, p, 0, []int{5}), step(0, 0))
		for known := range 4 {
			want := steps(0, []int{0, 1, 2, 3}[known:]...)
			wantMoves(t, p, cellState(t, p, known, []int{5, 6, 7, 8}), want...)
			wantMoves(t, p, cellState(t, p, known, []int{0, 0, 0, 0}, 1, 3), want...)
		}
	}
}

func TestMovesViewStores(t *testing.T) {
	vals := []int{5, 6, 7, 8}
	for _, i := range []impl.Ins{insStore(0, 1), insStoreAt(0, 1, 1, 2)} {
		p := progOf([]int{0}, row(i))
		wantMoves(t, p, cellState(t, p, 0, []int{5}), step(0, 1))
		for known := range 4 {
			wantMoves(t, p, cellState(t, p, known, vals), steps(0, []int{1, 2, 3, 4}[known:]...)...)
		}
		wantMoves(t, p, cellState(t, p, 0, vals, 1), steps(0, 2, 3, 4)...)
		wantMoves(t, p, cellState(t, p, 0, vals, 2), steps(0, 1, 3, 4)...)
		wantMoves(t, p, cellState(t, p, 0, vals, 1, 2), steps(0, 3, 4)...)
		wantMoves(t, p, cellState(t, p, 1, vals, 1), steps(0, 2, 3, 4)...)
		wantMoves(t, p, cellState(t, p, 0, vals, 1, 2, 3), step(0, 4))
		wantMoves(t, p, cellState(t, p, 3, vals, 3), step(0, 4))
	}
}

// InCas may not read what is register A where a Glue is behind it.
func TestMovesViewCas(t *testing.T) {
	p := progOf([]int{0}, row(insCas(1, 0, 2, 3)))
	same := func(known int, vals []int, glue ...int) impl.State {
		return after(cellState(t, p, known, vals, glue...), func(s *impl.State) { s.F[0].R = []int{1, 2, 5, 4, 6, 7} })
	}
	wantMoves(t, p, same(0, []int{5}), step(0, 0))
	wantMoves(t, p, same(0, []int{4}), step(0, 0))
	wantMoves(t, p, same(0, []int{5, 4}, 1), step(0, 1))
	wantMoves(t, p, same(0, []int{4, 5}, 1), steps(0, 0, 1)...)
	wantMoves(t, p, same(0, []int{5, 4}), steps(0, 0, 1)...)
	wantMoves(t, p, same(0, []int{5, 5, 5, 5}), steps(0, 0, 1, 2, 3)...)
	wantMoves(t, p, same(0, []int{5, 5, 5, 5}, 2), steps(0, 0, 2, 3)...)
	wantMoves(t, p, same(1, []int{5, 5, 5, 5}, 2), steps(0, 2, 3)...)
	wantMoves(t, p, same(0, []int{5, 5, 5, 5}, 1, 2, 3), step(0, 3))
	wantMoves(t, p, same(0, []int{5, 6, 5, 4}, 1, 2, 3), steps(0, 1, 3)...)
	wantMoves(t, p, same(1, []int{5, 6, 4, 3}, 1, 2, 3), steps(0, 1, 2, 3)...)
	wantMoves(t, p, same(3, []int{5, 5, 5, 5}, 3), step(0, 3))
}

// writtenProg has the cells of written, and for each thread an instruction
// about each of them, behind one another.
func writtenProg() impl.Prog {
	return progOf([]int{7, 8, 9},
		row(insLoad(0, 2), insStore(2, 0), insCas(0, 2, 1, 2), insFence),
		row(insLoadAt(0, 0, 1, 3), insStoreAt(0, 1, 3, 2), insCas(0, 2, 1, 2), insFence))
}

// Each thread goes by its own View, and by the history of the one cell that
// its instruction is about.
func TestMovesViewThreads(t *testing.T) {
	p := writtenProg()
	at := func(pc0 int, pc1 int, r int) impl.State {
		s := after(written(), func(s *impl.State) { s.Pc, s.F[1].R[1] = []int{pc0, pc1}, r })
		if !impl.StateOk(p, s) {
			t.Fatal("no state")
		}
		return s
	}
	wantMoves(t, p, at(0, 4, 0), step(0, 2))
	wantMoves(t, p, at(1, 4, 0), step(0, 3))
	wantMoves(t, p, at(2, 4, 0), step(0, 2))
	wantMoves(t, p, at(3, 4, 0), step(0, 0))
	wantMoves(t, p, at(4, 0, 0), steps(1, 0, 1)...)
	wantMoves(t, p, at(4, 0, 1), steps(1, 0)...)
	wantMoves(t, p, at(4, 0, -1), steps(1, 0, 1, 2)...)
	wantMoves(t, p, at(4, 1, 3), steps(1, 1, 2)...)
	wantMoves(t, p, at(4, 1, -2), steps(1, 1)...)
	wantMoves(t, p, at(4, 1, 5), steps(1, 1, 3)...)
	wantMoves(t, p, at(4, 2, 9), steps(1, 0, 2)...)
	wantMoves(t, p, at(4, 2, 1), steps(1, 0, 1, 2)...)
	wantMoves(t, p, at(0, 1, 2), step(0, 2), step(1, 1), step(1, 3))
	wantMoves(t, p, at(3, 0, 2), step(0, 0), step(1, 0), step(1, 1), step(1, 2))
	wantMoves(t, p, at(1, 3, 2), step(0, 3), step(1, 0))
}

func TestMovesOfNoState(t *testing.T) {
	p := progOf([]int{7, 8}, row(insLoad(0, 0), insStore(1, 0)), row(insFence))
	for _, s := range noStates(t, p) {
		wantMoves(t, p, s)
	}
	for _, kind := range kinds {
		for _, bad := range badProgs() {
			wantMoves(t, bad, started(t, p, kind))
			wantMoves(t, bad, impl.State{Kind: kind})
		}
	}
}
