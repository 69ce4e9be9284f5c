package tests

import (
	"math"
	"slices"
	"strings"
	"testing"

	"loop.example/g00713/impl"
)

func TestConstants(t *testing.T) {
	ops := []int{impl.InSet, impl.InMov, impl.InAdd, impl.InSub, impl.InLess, impl.InSame, impl.InLoad, impl.InStore, impl.InLoadAt, impl.InStoreAt, impl.InCas, impl.InFence, impl.InZero, impl.InJump}
	for k, op := range ops {
		if op != k+1 {
			t.Errorf("Op number %d is %d", k+1, op)
		}
	}
	limits := []int{impl.MaxThreads, impl.MaxIns, impl.MaxCells, impl.Regs}
	if !slices.Equal(limits, []int{3, 24, 6, 6}) {
		t.Errorf("limits %v", limits)
	}
}

func TestInsOkOrdinary(t *testing.T) {
	for op := range usedFields {
		if i := full(op); !fits(i) {
			t.Errorf("%+v refused", i)
		}
	}
}

func TestInsOkUnknownOp(t *testing.T) {
	for _, op := range append([]int{0, 15, 16}, farInts...) {
		if impl.InsOk(impl.Ins{Op: op}, 0, 1, 1) {
			t.Errorf("Op %d accepted", op)
		}
	}
}

func TestInsOkUnusedFields(t *testing.T) {
	for op, used := range usedFields {
		for _, field := range "RABXN" {
			if strings.ContainsRune(used, field) {
				continue
			}
			for _, value := range append([]int{1, 2, 5}, farInts...) {
				if i := set(full(op), field, value); fits(i) {
					t.Errorf("%+v accepted with an unused %c", i, field)
				}
			}
		}
	}
}

func TestInsOkRegisters(t *testing.T) {
	for op, used := range usedFields {
		for _, field := range "RAB" {
			if !strings.ContainsRune(used, field) {
				continue
			}
			for value := range impl.Regs {
				if i := set(full(op), field, value); !fits(i) {
					t.Errorf("%+v refused", i)
				}
			}
			for _, value := range append([]int{impl.Regs}, farInts...) {
				if i := set(full(op), field, value); fits(i) {
					t.Errorf("%+v accepted", i)
				}
			}
		}
	}
}

func TestInsOkSetsAnyNumber(t *testing.T) {
	for _, n := range append([]int{0, 1}, farInts...) {
		if !impl.InsOk(impl.Ins{Op: impl.InSet, N: n}, 0, 1, 1) {
			t.Errorf("number %d refused", n)
		}
	}
}

func TestInsOkCell(t *testing.T) {
	for _, op := range []int{impl.InLoad, impl.InStore, impl.InCas} {
		for cells := 1; cells <= impl.MaxCells; cells++ {
			for _, x := range append([]int{0, cells - 1, cells, cells + 1}, farInts...) {
				i := impl.Ins{Op: op, X: x}
				if impl.InsOk(i, 0, cells, 1) != (x == 0 || x == cells-1) {
					t.Errorf("%+v of %d cells", i, cells)
				}
			}
		}
		for _, cells := range []int{0, -1, math.MinInt + 1, math.MinInt} {
			for _, x := range append([]int{0, 1}, farInts...) {
				if impl.InsOk(impl.Ins{Op: op, X: x}, 0, cells, 1) {
					t.Errorf("Op %d, cell %d of %d", op, x, cells)
				}
			}
		}
	}
}

func TestInsOkCellsFromXOn(t *testing.T) {
	for _, op := range []int{impl.InLoadAt, impl.InStoreAt} {
		for cells := 1; cells <= impl.MaxCells; cells++ {
			for n := 1; n <= cells; n++ {
				for _, x := range append([]int{0, cells - n, cells - n + 1, cells}, farInts...) {
					i := impl.Ins{Op: op, X: x, N: n}
					if impl.InsOk(i, 0, cells, 1) != (x == 0 || x == cells-n) {
						t.Errorf("%+v of %d cells", i, cells)
					}
				}
			}
			for _, n := range append([]int{0, cells + 1}, farInts...) {
				for _, x := range append([]int{0, 1, cells}, farInts...) {
					if i := (impl.Ins{Op: op, X: x, N: n}); impl.InsOk(i, 0, cells, 1) {
						t.Errorf("%+v of %d cells", i, cells)
					}
				}
			}
		}
		for _, cells := range []int{0, -1, math.MinInt + 1, math.MinInt} {
			for _, n := range append([]int{0, 1}, farInts...) {
				if impl.InsOk(impl.Ins{Op: op, N: n}, 0, cells, 1) {
					t.Errorf("Op %d, N %d of %d cells", op, n, cells)
				}
			}
		}
	}
}

func TestInsOkJumps(t *testing.T) {
	for _, op := range []int{impl.InZero, impl.InJump} {
		for n := 1; n <= impl.MaxIns; n++ {
			for at := range n {
				for _, to := range append([]int{0, at, at + 1, n, n + 1}, farInts...) {
					i := impl.Ins{Op: op, N: to}
					if impl.InsOk(i, at, 1, n) != (to == at+1 || to == n) {
						t.Errorf("%+v at %d of %d", i, at, n)
					}
				}
			}
		}
		for _, to := range append([]int{0, 1, 2}, farInts...) {
			if i := (impl.Ins{Op: op, N: to}); impl.InsOk(i, math.MaxInt, 1, 2) || impl.InsOk(i, 1, 1, math.MinInt) || impl.InsOk(i, 2, 1, 2) {
				t.Errorf("%+v accepted where no jump may stand", i)
			}
		}
		if !impl.InsOk(impl.Ins{Op: op, N: math.MaxInt}, math.MaxInt-1, 1, math.MaxInt) {
			t.Errorf("Op %d refused at the end of the longest row", op)
		}
	}
}

func TestInsOkCellsOfNoMatter(t *testing.T) {
	for _, op := range []int{impl.InSet, impl.InMov, impl.InAdd, impl.InSub, impl.InLess, impl.InSame, impl.InFence} {
		for _, cells := range append([]int{0, 1}, farInts...) {
			if !impl.InsOk(full(op), 0, cells, 1) {
				t.Errorf("Op %d refused for %d cells", op, cells)
			}
		}
	}
}

func TestInsOkInLongerRow(t *testing.T) {
	found := map[int]bool{}
	for _, i := range manyIns() {
		for n := 1; n <= 3; n++ {
			for at := range n {
				if !impl.InsOk(i, at, 3, n) {
					continue
				}
				found[i.Op] = true
				for _, longer := range []int{n + 1, n + 2, impl.MaxIns, math.MaxInt} {
					if !impl.InsOk(i, at, 3, longer) {
						t.Fatalf("%+v at %d stands among %d, not among %d", i, at, n, longer)
					}
				}
				if !impl.InsOk(i, at, 4, n) {
					t.Fatalf("%+v at %d stands for 3 cells, not for 4", i, at)
				}
			}
		}
	}
	if len(found) != impl.InJump {
		t.Fatalf("only %d Ops were accepted", len(found))
	}
}

// mayTouch goes through the cells that the document gives an instruction.
func mayTouch(i impl.Ins, cell int) int {
	how := map[int]int{impl.InLoad: 1, impl.InLoadAt: 1, impl.InStore: 2, impl.InStoreAt: 2, impl.InCas: 3}[i.Op]
	rests := 1
	if i.Op == impl.InLoadAt || i.Op == impl.InStoreAt {
		rests = i.N
	}
	for rest := 0; rest < rests; rest++ {
		if i.X+rest == cell {
			return how
		}
	}
	return 0
}

func TestTouches(t *testing.T) {
	seen := map[int]bool{}
	for _, i := range manyIns() {
		for cell := range 10 {
			want := mayTouch(i, cell)
			seen[want] = true
			if got := impl.Touches(i, cell); got != want {
				t.Fatalf("%+v does %d to cell %d, want %d", i, got, cell, want)
			}
		}
	}
	if len(seen) != 4 {
		t.Fatalf("only %v were wanted", seen)
	}
}

func TestTouchesFarNumbers(t *testing.T) {
	for op := range usedFields {
		for _, cell := range farInts {
			if impl.Touches(full(op), cell) != 0 {
				t.Errorf("%+v touches cell %d", full(op), cell)
			}
		}
	}
	for _, op := range []int{0, 15, math.MinInt, math.MaxInt} {
		if impl.Touches(impl.Ins{Op: op, N: 1}, 0) != 0 {
			t.Errorf("Op %d touches", op)
		}
	}
	for _, x := range []struct{ x, n, cell, want int }{
		{0, math.MaxInt, 0, 1}, {0, math.MaxInt, math.MaxInt - 1, 1}, {0, math.MaxInt, math.MaxInt, 0},
		{0, 0, 0, 0}, {0, -1, 0, 0}, {0, math.MinInt, 0, 0}, {3, math.MinInt, 1, 0},
		{math.MaxInt, 1, math.MaxInt, 1}, {math.MaxInt, 2, math.MaxInt, 1}, {math.MaxInt, 2, math.MinInt, 1}, {math.MaxInt, 2, 0, 0},
		{math.MinInt, 2, math.MinInt + 1, 1}, {math.MinInt, 2, math.MaxInt, 0}, {1, 2, math.MinInt, 0},
	} {
		i := impl.Ins{Op: impl.InLoadAt, X: x.x, N: x.n}
		if got := impl.Touches(i, x.cell); got != x.want {
			t.Errorf("%+v does %d to cell %d", i, got, x.cell)
		}
	}
}
