package tests

import (
	"math"
	"math/big"
	"slices"
	"testing"

	"loop.example/g00713/impl"
)

// maxRun is how many picks the document lets Run take.
const maxRun = 2000

func wantRun(t *testing.T, p impl.Prog, s impl.State, picks []int, want impl.State, n int) {
	t.Helper()
	if got, done := impl.Run(p, s, picks); done != n || !sameValue(got, want) {
		t.Fatalf("%d moves of %v are done:\n%+v becomes\n%+v, want %d and\n%+v", done, picks, s, got, n, want)
	}
}

// pickOf is the number of the move that a pick picks of so many.
func pickOf(pick int, n int) int {
	return int(new(big.Int).Mod(big.NewInt(int64(pick)), big.NewInt(int64(n))).Int64())
}

// runBy is Run, move by move.
func runBy(t *testing.T, p impl.Prog, s impl.State, picks []int) (impl.State, int) {
	t.Helper()
	for k, pick := range picks {
		moves := impl.Moves(p, s)
		if len(moves) == 0 {
			return s, k
		}
		next, ok := impl.Do(p, s, moves[pickOf(pick, len(moves))])
		if !ok {
			t.Fatalf("one of the moves %v is not done", moves)
		}
		s = next
	}
	return s, len(picks)
}

// threeLoads is a program that has three moves, by each kind: each thread
// loads what tells it from others.
func threeLoads() impl.Prog {
	return progOf([]int{7, 8, 9}, row(insLoad(0, 0)), row(insLoad(0, 1)), row(insLoad(0, 2)))
}

func TestRunPicks(t *testing.T) {
	p := threeLoads()
	for _, kind := range kinds {
		s := started(t, p, kind)
		for _, x := range []struct{ pick, t int }{
			{0, 0}, {1, 1}, {2, 2}, {3, 0}, {4, 1}, {5, 2}, {6, 0}, {-1, 2}, {-2, 1}, {-3, 0}, {-4, 2},
			{math.MaxInt, 1}, {math.MaxInt - 1, 0}, {math.MinInt, 1}, {math.MinInt + 1, 2},
		} {
			want := after(s, func(s *impl.State) { s.Pc[x.t], s.F[x.t].R[0] = 1, 7+x.t })
			wantRun(t, p, s, []int{x.pick}, want, 1)
		}
		wantRun(t, p, s, []int{2, 1}, after(s, func(s *impl.State) {
			s.Pc, s.F[1].R[0], s.F[2].R[0] = []int{0, 1, 1}, 8, 9
		}), 2)
		wantRun(t, p, s, []int{1, -1}, after(s, func(s *impl.State) {
			s.Pc, s.F[1].R[0], s.F[2].R[0] = []int{0, 1, 1}, 8, 9
		}), 2)
	}
}

// Of several moves of one thread each is picked, a flush, too.
func TestRunPicksOfOneThread(t *testing.T) {
	p := progOf([]int{0}, row(insLoad(0, 0), insLoad(1, 0)), row(insLoad(0, 0)))
	view := threePosts(t, p)
	buf := startedWith(t, p, impl.KdBuf, func(s *impl.State) { s.Bufs[0] = waits(0, 4, 0, 5) })
	for _, s := range []impl.State{view, buf} {
		moves := impl.Moves(p, s)
		for pick := -9; pick <= 9; pick++ {
			want, ok := impl.Do(p, s, moves[pickOf(pick, len(moves))])
			if !ok {
				t.Fatal("not done")
			}
			wantRun(t, p, s, []int{pick}, want, 1)
		}
	}
	wantRun(t, p, buf, []int{1, 1, 1}, after(buf, func(s *impl.State) {
		s.Bufs[0], s.Mem[0], s.F[1].R[0], s.Pc = waits(), 5, 5, []int{0, 1}
	}), 3)
	wantRun(t, p, view, []int{2, 1, 0}, after(view, func(s *impl.State) {
		s.Pc, s.F[0].R, s.F[1].R[0], s.View[0].R[0] = []int{2, 1}, []int{7, 7, 0, 0, 0, 0}, 5, 2
	}), 3)
}

// threePosts has posts of 5, 6 and 7, of which each thread knows the first one.
func threePosts(t *testing.T, p impl.Prog) impl.State {
	t.Helper()
	return startedWith(t, p, impl.KdView, func(s *impl.State) {
		h := history(0, 1, 2)
		for place := range h.L {
			h.L[place].Val, h.L[place].View = 5+place, []int{place}
		}
		s.H, s.Sc[0], s.Next = []impl.Hist{h}, 2, 3
	})
}

func TestRunNoPicks(t *testing.T) {
	p := sample()
	for _, kind := range kinds {
		s := startedWith(t, p, kind, threeToEight)
		wantRun(t, p, s, nil, s, 0)
		wantRun(t, p, s, []int{}, s, 0)
	}
}

// Picks that are left over when there are no more moves do nothing.
func TestRunLeftOver(t *testing.T) {
	p := progOf([]int{7}, row(insSet(1, 4), insStore(0, 1)), row(insFence))
	moves := map[int]int{impl.KdOne: 3, impl.KdBuf: 4, impl.KdView: 3}
	for _, kind := range kinds {
		s := started(t, p, kind)
		end, n := impl.Run(p, s, make([]int, moves[kind]))
		if n != moves[kind] || !impl.Done(p, end) {
			t.Fatalf("kind %d: %d moves lead to %+v", kind, n, end)
		}
		for _, more := range []int{1, 2, 50, maxRun - moves[kind]} {
			wantRun(t, p, s, make([]int, moves[kind]+more), end, moves[kind])
			wantRun(t, p, end, make([]int, more), end, 0)
		}
		wantRun(t, p, end, farInts, end, 0)
	}
}

func TestRunMostPicks(t *testing.T) {
	p := threeLoads()
	for _, kind := range kinds {
		s := started(t, p, kind)
		end, n := impl.Run(p, s, []int{0, 0, 0})
		if n != 3 || !impl.Done(p, end) {
			t.Fatalf("kind %d: %d moves lead to %+v", kind, n, end)
		}
		wantRun(t, p, s, make([]int, maxRun-1), end, 3)
		wantRun(t, p, s, make([]int, maxRun), end, 3)
		for _, more := range []int{1, 2, maxRun} {
			wantRun(t, p, s, make([]int, maxRun+more), impl.State{}, 0)
			wantRun(t, p, end, make([]int, maxRun+more), impl.State{}, 0)
		}
	}
}

func TestRunOfNoState(t *testing.T) {
	p := progOf([]int{7, 8}, row(insLoad(0, 0), insStore(1, 0)), row(insFence))
	for _, picks := range [][]int{nil, {0}, {0, 1, 2}, make([]int, maxRun), make([]int, maxRun+1)} {
		for _, s := range noStates(t, p) {
			wantRun(t, p, s, picks, impl.State{}, 0)
		}
		for _, kind := range kinds {
			for _, bad := range badProgs() {
				wantRun(t, bad, started(t, p, kind), picks, impl.State{}, 0)
			}
		}
	}
}

func TestRunMoveByMove(t *testing.T) {
	for k, p := range walkedProgs() {
		for _, kind := range kinds {
			picks := []int{}
			for n := range 40 {
				picks = append(picks, (k+n)*(n*n+7*k)%31-9)
			}
			s := started(t, p, kind)
			for n := range len(picks) {
				want, done := runBy(t, p, s, picks[:n])
				wantRun(t, p, s, picks[:n], want, done)
			}
			// Two runs behind one another are one.
			half, done := impl.Run(p, s, picks[:11])
			end, more := impl.Run(p, half, picks[11:])
			wantRun(t, p, s, picks, end, done+more)
		}
	}
}

// A run that comes to what is no more a state has no more moves there.
func TestRunPastLastNumber(t *testing.T) {
	p := progOf([]int{0}, row(insStore(0, 1), insStore(0, 1)))
	s := startedWith(t, p, impl.KdView, func(s *impl.State) { s.Next = maxNext })
	end, n := impl.Run(p, s, []int{0, 0, 0})
	if n != 1 || end.Next != maxNext+1 || !slices.Equal(end.Pc, []int{1}) {
		t.Errorf("%d moves lead to %+v", n, end)
	}
}
