package tests

import (
	"testing"

	"loop.example/g00713/impl"
)

func TestDequeProgWrittenOut(t *testing.T) {
	for _, c := range dequeCases() {
		got := dequeProg(t, c)
		if want := dequeByHand(c.items, c.steals, c.fences); !sameValue(got, want) {
			t.Errorf("of %+v comes %+v, want %+v", c, got, want)
		}
		if !impl.ProgOk(got) {
			t.Errorf("what comes of %+v is no program: %+v", c, got)
		}
	}
}

func TestDequeProgNoSteals(t *testing.T) {
	for items := 1; items <= 4; items++ {
		p := dequeProg(t, dequeCase{items, []int{}, 0})
		if !sameValue(p, dequeProg(t, dequeCase{items, nil, 0})) || len(p.T) != 1 {
			t.Errorf("of %d items comes %+v", items, p)
		}
	}
}

// Two steals with fences are as long as a thread may be.
func TestDequeProgLength(t *testing.T) {
	for _, c := range dequeCases() {
		for k, often := range c.steals {
			want := 11 * often
			if hasStealFence(c.fences) {
				want = 12 * often
			}
			if got := len(dequeProg(t, c).T[k+1].L); got != want || got > impl.MaxIns {
				t.Errorf("of %+v comes a thread %d of %d instructions, want %d", c, k+1, got, want)
			}
		}
	}
}

func TestDequeProgRefused(t *testing.T) {
	for _, c := range refusedCases() {
		if p, ok := impl.DequeProg(c.items, c.steals, c.fences); ok || !sameValue(p, impl.Prog{}) {
			t.Errorf("of %+v comes %+v, %v", c, p, ok)
		}
	}
}
