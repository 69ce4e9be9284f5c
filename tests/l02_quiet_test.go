package tests

import (
	"math"
	"math/big"
	"testing"

	"loop.example/g00713/impl"
)

var memoryOps = []int{impl.InLoad, impl.InStore, impl.InLoadAt, impl.InStoreAt, impl.InCas}

var quietOps = []int{impl.InSet, impl.InMov, impl.InAdd, impl.InSub, impl.InLess, impl.InSame, impl.InFence, impl.InZero, impl.InJump}

var noOps = append([]int{0, 15, 16}, farInts...)

// noRegisters are numbers of no register.
var noRegisters = append([]int{impl.Regs}, farInts...)

func regs() impl.File {
	return impl.File{R: []int{0, 3, 4, -1, math.MinInt, math.MaxInt}}
}

func wantCell(t *testing.T, want int, i impl.Ins, f impl.File) {
	t.Helper()
	if got := impl.CellOf(i, f); got != want {
		t.Errorf("%+v is about cell %d, want %d", i, got, want)
	}
}

func TestCellOfX(t *testing.T) {
	for _, op := range []int{impl.InLoad, impl.InStore, impl.InCas} {
		for _, x := range append([]int{0, 1, 5, 6}, farInts...) {
			wantCell(t, x, impl.Ins{Op: op, X: x}, regs())
			wantCell(t, x, impl.Ins{Op: op, R: 1, A: 5, B: 2, X: x}, regs())
			wantCell(t, x, impl.Ins{Op: op, R: -1, B: 99, X: x, N: -7}, regs())
		}
	}
}

func TestCellOfRest(t *testing.T) {
	for _, op := range []int{impl.InLoadAt, impl.InStoreAt} {
		for _, x := range []int{0, 1, 4, -9, math.MaxInt - 40} {
			for n := 1; n <= 8; n++ {
				for a := -20; a <= 20; a++ {
					rest := new(big.Int).Mod(big.NewInt(int64(a)), big.NewInt(int64(n))).Int64()
					wantCell(t, x+int(rest), impl.Ins{Op: op, A: 2, X: x, N: n}, impl.File{R: []int{9, 9, a, 9, 9, 9}})
				}
			}
		}
	}
}

func TestCellOfFarRests(t *testing.T) {
	for _, x := range []struct{ a, x, n, want int }{
		{-1, 0, 4, 3}, {-4, 0, 4, 0}, {-5, 1, 4, 4}, {-1, 2, 1, 2}, {math.MinInt, 0, 1, 0}, {math.MinInt, 0, 3, 1},
		{math.MaxInt, 0, 4, 3}, {math.MinInt, 0, math.MaxInt, math.MaxInt - 1}, {-1, 0, math.MaxInt, math.MaxInt - 1},
		{math.MaxInt, 0, math.MaxInt, 0}, {1, math.MaxInt, 2, math.MinInt}, {-1, math.MaxInt, 3, math.MinInt + 1},
		{1, math.MinInt, 2, math.MinInt + 1}, {0, -7, 2, -7},
	} {
		f := impl.File{R: []int{1, 1, 1, 1, 1, x.a}}
		wantCell(t, x.want, impl.Ins{Op: impl.InLoadAt, A: 5, X: x.x, N: x.n}, f)
		wantCell(t, x.want, impl.Ins{Op: impl.InStoreAt, A: 5, X: x.x, N: x.n}, f)
	}
}

func TestCellOfNone(t *testing.T) {
	for _, op := range append(quietOps[:len(quietOps):len(quietOps)], noOps...) {
		for x := range 3 {
			wantCell(t, -1, impl.Ins{Op: op, X: x, N: 2}, regs())
		}
	}
	for _, op := range memoryOps {
		i := impl.Ins{Op: op, X: 3, N: 2}
		for n := range 2*impl.Regs + 1 {
			if n != impl.Regs {
				wantCell(t, -1, i, impl.File{R: make([]int, n)})
			}
		}
		wantCell(t, -1, i, impl.File{})
		for a := range impl.Regs {
			wantCell(t, 3, set(i, 'A', a), impl.File{R: make([]int, impl.Regs)})
		}
		for _, a := range noRegisters {
			wantCell(t, -1, set(i, 'A', a), regs())
		}
	}
	for _, op := range []int{impl.InLoadAt, impl.InStoreAt} {
		for _, n := range []int{0, -1, -2, math.MinInt + 1, math.MinInt} {
			for a := range impl.Regs {
				wantCell(t, -1, impl.Ins{Op: op, A: a, X: 3, N: n}, regs())
			}
		}
	}
}

// The cell of an instruction that may stand is one that it touches.
func TestCellOfIsTouched(t *testing.T) {
	n := 0
	for _, i := range manyIns() {
		if !impl.InsOk(i, 0, 4, 4) {
			continue
		}
		cell := impl.CellOf(i, regs())
		if (cell == -1) == (impl.Touches(i, cell) != 0) || cell < -1 || cell > 3 {
			t.Fatalf("%+v is about cell %d", i, cell)
		}
		n++
	}
	if n < 100 {
		t.Fatalf("only %d instructions", n)
	}
}

// wantQuiet tries what a quiet instruction does to registers that are regs().
func wantQuiet(t *testing.T, i impl.Ins, pc int, changed map[int]int, next int) {
	t.Helper()
	want := regs()
	for r, val := range changed {
		want.R[r] = val
	}
	if f, got := impl.Quiet(i, pc, regs()); got != next || !sameValue(f, want) {
		t.Errorf("%+v at %d: %v, next %d; want %v, next %d", i, pc, f, got, want, next)
	}
}

func TestQuietRegisters(t *testing.T) {
	for r := range impl.Regs {
		for _, x := range []struct {
			op, a, b, n, want int
		}{
			{impl.InSet, 0, 0, 9, 9}, {impl.InSet, 0, 0, math.MinInt, math.MinInt}, {impl.InSet, 1, 2, 0, 0},
			{impl.InMov, 2, 0, 0, 4}, {impl.InMov, 4, 1, 9, math.MinInt},
			{impl.InAdd, 1, 2, 0, 7}, {impl.InAdd, 5, 1, 0, math.MinInt + 2}, {impl.InAdd, 4, 3, 0, math.MaxInt}, {impl.InAdd, 4, 4, 0, 0},
			{impl.InSub, 1, 2, 0, -1}, {impl.InSub, 2, 1, 0, 1}, {impl.InSub, 4, 1, 0, math.MaxInt - 2}, {impl.InSub, 5, 3, 0, math.MinInt}, {impl.InSub, 0, 4, 0, math.MinInt},
			{impl.InLess, 3, 1, 0, 1}, {impl.InLess, 1, 3, 0, 0}, {impl.InLess, 1, 1, 0, 0}, {impl.InLess, 4, 5, 0, 1}, {impl.InLess, 5, 4, 0, 0},
			{impl.InSame, 1, 2, 0, 0}, {impl.InSame, 1, 1, 0, 1}, {impl.InSame, 4, 5, 0, 0},
		} {
			wantQuiet(t, impl.Ins{Op: x.op, R: r, A: x.a, B: x.b, N: x.n}, 5, map[int]int{r: x.want}, 6)
		}
	}
}

func TestQuietSameValues(t *testing.T) {
	f := impl.File{R: []int{5, 5, 6, 0, 0, 0}}
	if g, pc := impl.Quiet(impl.Ins{Op: impl.InSame, R: 5, A: 0, B: 1}, 0, f); pc != 1 || g.R[5] != 1 {
		t.Error("two registers with the same number are not the same")
	}
	if g, pc := impl.Quiet(impl.Ins{Op: impl.InAdd, R: 0, A: 0, B: 0}, 0, f); pc != 1 || g.R[0] != 10 || f.R[0] != 5 {
		t.Error("a register that is added to itself")
	}
}

func TestQuietJumps(t *testing.T) {
	for _, to := range append([]int{0, 5, 6, 9}, farInts...) {
		for _, pc := range append([]int{0, 5}, farInts...) {
			wantQuiet(t, impl.Ins{Op: impl.InJump, N: to}, pc, nil, to)
			wantQuiet(t, impl.Ins{Op: impl.InJump, A: 1, N: to}, pc, nil, to)
			wantQuiet(t, impl.Ins{Op: impl.InZero, A: 0, N: to}, pc, nil, to)
			for a := 1; a < impl.Regs; a++ {
				wantQuiet(t, impl.Ins{Op: impl.InZero, A: a, N: to}, pc, nil, pc+1)
			}
		}
	}
	wantQuiet(t, impl.Ins{Op: impl.InZero, R: 3, B: 2, N: 9}, 5, nil, 9)
}

func TestQuietNext(t *testing.T) {
	for _, pc := range []int{0, 23, 24, -1, -2, math.MinInt} {
		wantQuiet(t, impl.Ins{Op: impl.InFence}, pc, nil, pc+1)
		wantQuiet(t, impl.Ins{Op: impl.InFence, R: 2, A: 3, B: 1, X: 7, N: 8}, pc, nil, pc+1)
		wantQuiet(t, impl.Ins{Op: impl.InSet, R: 1, N: 2}, pc, map[int]int{1: 2}, pc+1)
	}
	wantQuiet(t, impl.Ins{Op: impl.InFence}, math.MaxInt, nil, math.MinInt)
	wantQuiet(t, impl.Ins{Op: impl.InMov, A: 1}, math.MaxInt, map[int]int{0: 3}, math.MinInt)
}

func refusesQuiet(t *testing.T, i impl.Ins, f impl.File) {
	t.Helper()
	if g, pc := impl.Quiet(i, 5, f); pc != -1 || len(g.R) != 0 {
		t.Errorf("%+v with %v: %v, next %d", i, f, g, pc)
	}
}

func TestQuietRefused(t *testing.T) {
	for _, op := range append(memoryOps[:len(memoryOps):len(memoryOps)], noOps...) {
		refusesQuiet(t, impl.Ins{Op: op, N: 1}, regs())
	}
	for _, op := range quietOps {
		for n := range 2*impl.Regs + 1 {
			if n != impl.Regs {
				refusesQuiet(t, impl.Ins{Op: op, N: 1}, impl.File{R: make([]int, n)})
			}
		}
		refusesQuiet(t, impl.Ins{Op: op, N: 1}, impl.File{})
		// Also where the Op has no use for that field.
		for _, field := range "RAB" {
			for _, r := range noRegisters {
				refusesQuiet(t, set(impl.Ins{Op: op, N: 1}, field, r), regs())
			}
		}
	}
}

func TestQuietChangesItsRegisterAlone(t *testing.T) {
	n := 0
	for _, i := range manyIns() {
		f, next := impl.Quiet(i, 2, regs())
		if next == -1 && len(f.R) == 0 {
			continue
		}
		n++
		if len(f.R) != impl.Regs || next != 3 && next != i.N {
			t.Fatalf("%+v: %v, next %d", i, f, next)
		}
		for r, val := range regs().R {
			if f.R[r] != val && (r != i.R || i.Op > impl.InSame) {
				t.Fatalf("%+v changes register %d", i, r)
			}
		}
	}
	if n < 1000 {
		t.Fatalf("only %d instructions", n)
	}
}

func TestQuietIsNewMemory(t *testing.T) {
	for _, i := range manyIns() {
		for _, n := range []int{0, impl.Regs - 1, impl.Regs, impl.Regs + 1} {
			f := withRoom(impl.File{R: make([]int, n)})
			before := deepCopy(f)
			g, _ := impl.Quiet(i, 2, f)
			impl.CellOf(i, f)
			if sharesMemory(g, f) {
				t.Fatalf("%+v: the registers behind it share memory with those ahead of it", i)
			}
			if !wholeSame(f, before) {
				t.Fatalf("%+v changed its argument", i)
			}
		}
	}
}
