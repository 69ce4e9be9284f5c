package tests

import (
	"testing"

	"loop.example/g00713/impl"
)

func TestDequeConstants(t *testing.T) {
	if impl.FcTake != 1 || impl.FcSteal != 2 {
		t.Error(impl.FcTake, impl.FcSteal)
	}
}

func TestDequeInsWrittenOut(t *testing.T) {
	for r := range 2 {
		for _, fences := range fenceSets {
			if got, want := impl.DequeTake(r, fences), takeByHand(r, fences); !sameValue(got, want) {
				t.Errorf("register %d, fences %d: to take is %v, want %v", r, fences, got, want)
			}
			if got, want := impl.DequeSteal(r, fences), stealByHand(r, fences); !sameValue(got, want) {
				t.Errorf("register %d, fences %d: to steal is %v, want %v", r, fences, got, want)
			}
		}
	}
}

// A fence is one instruction more; whatever is jumped to stays the same.
func TestDequeInsWithAndWithoutFence(t *testing.T) {
	for r := range 2 {
		for _, x := range []struct {
			plain  []impl.Ins
			fenced []impl.Ins
			at     int
		}{
			{impl.DequeTake(r, 0), impl.DequeTake(r, impl.FcTake), 4},
			{impl.DequeTake(r, impl.FcSteal), impl.DequeTake(r, impl.FcTake+impl.FcSteal), 4},
			{impl.DequeSteal(r, 0), impl.DequeSteal(r, impl.FcSteal), 1},
			{impl.DequeSteal(r, impl.FcTake), impl.DequeSteal(r, impl.FcTake+impl.FcSteal), 1},
		} {
			wantFenced(t, progOf(initByHand(1), row(x.plain...)), spotsIn(0, x.at), row(x.fenced...))
		}
	}
}

func TestDequeInsRefused(t *testing.T) {
	refuses := func(r int, fences int) {
		t.Helper()
		if got := impl.DequeTake(r, fences); len(got) != 0 {
			t.Errorf("register %d, fences %d: to take is %v", r, fences, got)
		}
		if got := impl.DequeSteal(r, fences); len(got) != 0 {
			t.Errorf("register %d, fences %d: to steal is %v", r, fences, got)
		}
	}
	for _, r := range strangeRegs {
		for _, fences := range append(strangeFences, fenceSets...) {
			refuses(r, fences)
		}
	}
	for _, fences := range strangeFences {
		refuses(0, fences)
		refuses(1, fences)
	}
}

// queueOf has a number in each place of the ring.
func queueOf(top int, bottom int) []int {
	return []int{top, bottom, 21, 22, 23, 24}
}

// itemAt is the number in that place of queueOf, however far on it is.
func itemAt(place int) int {
	return []int{21, 22, 23, 24}[(place%4+4)%4]
}

// cellsOf has what stands in the cells, by views the last that was written.
func cellsOf(s impl.State) []int {
	if s.Kind != impl.KdView {
		return s.Mem
	}
	var out []int
	for _, h := range s.H {
		out = append(out, h.L[len(h.L)-1].Val)
	}
	return out
}

// wantAlone runs a thread alone, of which registers 0 and 1 begin with 98 and 99.
func wantAlone(t *testing.T, l []impl.Ins, top int, bottom int, r int, item int, cells []int) {
	t.Helper()
	p := progOf(queueOf(top, bottom), row(l...))
	for _, kind := range kinds {
		s := startedWith(t, p, kind, func(s *impl.State) { s.F[0].R[0], s.F[0].R[1] = 98, 99 })
		s, _ = impl.Run(p, s, make([]int, leftOf(p, s)))
		want := []int{98, 99}
		want[r] = item
		if !impl.Done(p, s) || !sameValue(s.F[0].R[:2], want) || !sameValue(cellsOf(s), cells) {
			t.Fatalf("kind %d, %d .. %d: %v leads to %+v, want %v and %v", kind, top, bottom, l, s, want, cells)
		}
	}
}

func TestDequeTakeAlone(t *testing.T) {
	for r := range 2 {
		for _, fences := range fenceSets {
			l := impl.DequeTake(r, fences)
			for top := -5; top <= 6; top++ {
				// One that is empty stays so; the last item is taken from both ends.
				wantAlone(t, l, top, top-1, r, 0, queueOf(top, top))
				wantAlone(t, l, top, top, r, 0, queueOf(top, top))
				wantAlone(t, l, top, top+1, r, itemAt(top), queueOf(top+1, top+1))
				for bottom := top + 2; bottom <= top+4; bottom++ {
					wantAlone(t, l, top, bottom, r, itemAt(bottom-1), queueOf(top, bottom-1))
				}
			}
		}
	}
}

func TestDequeStealAlone(t *testing.T) {
	for r := range 2 {
		for _, fences := range fenceSets {
			l := impl.DequeSteal(r, fences)
			for top := -5; top <= 6; top++ {
				wantAlone(t, l, top, top-1, r, 0, queueOf(top, top-1))
				wantAlone(t, l, top, top, r, 0, queueOf(top, top))
				for bottom := top + 1; bottom <= top+4; bottom++ {
					wantAlone(t, l, top, bottom, r, itemAt(top), queueOf(top+1, bottom))
				}
			}
		}
	}
}

// wantBeaten runs a thread of which another one gets the item just ahead of its
// InCas.
func wantBeaten(t *testing.T, l []impl.Ins, r int, cells []int) {
	t.Helper()
	p := progOf(queueOf(2, 3), row(l...))
	s := started(t, p, impl.KdOne)
	for l[s.Pc[0]].Op != impl.InCas {
		s, _ = impl.Run(p, s, []int{0})
	}
	if s.F[0].R[r] != itemAt(2) {
		t.Fatalf("%v has not read the item: %+v", l, s)
	}
	s.Mem[0] = 3
	s, _ = impl.Run(p, s, make([]int, len(l)))
	if !impl.Done(p, s) || s.F[0].R[0] != 0 || s.F[0].R[1] != 0 || !sameValue(s.Mem, cells) {
		t.Fatalf("%v leads to %+v, want %v", l, s, cells)
	}
}

func TestDequeBeaten(t *testing.T) {
	for r := range 2 {
		for _, fences := range fenceSets {
			wantBeaten(t, impl.DequeTake(r, fences), r, queueOf(3, 3))
			wantBeaten(t, impl.DequeSteal(r, fences), r, queueOf(3, 3))
		}
	}
}
