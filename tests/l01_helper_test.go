package tests

import (
	"math"

	"loop.example/g00713/impl"
)

// farInts are numbers that are in no range of the first chapter.
var farInts = []int{math.MinInt, math.MinInt + 1, -1, math.MaxInt - 1, math.MaxInt}

// usedFields tells, for each Op, what the document uses in it.
var usedFields = map[int]string{
	impl.InSet:     "RN",
	impl.InMov:     "RA",
	impl.InAdd:     "RAB",
	impl.InSub:     "RAB",
	impl.InLess:    "RAB",
	impl.InSame:    "RAB",
	impl.InLoad:    "RX",
	impl.InStore:   "AX",
	impl.InLoadAt:  "RAXN",
	impl.InStoreAt: "ABXN",
	impl.InCas:     "RABX",
	impl.InFence:   "",
	impl.InZero:    "AN",
	impl.InJump:    "N",
}

// set puts a number into the field of that name.
func set(i impl.Ins, field rune, value int) impl.Ins {
	switch field {
	case 'R':
		i.R = value
	case 'A':
		i.A = value
	case 'B':
		i.B = value
	case 'X':
		i.X = value
	case 'N':
		i.N = value
	}
	return i
}

// Where full's instructions may stand.
const (
	fullAt    = 1
	fullCells = 4
	fullRow   = 3
)

// full is an instruction that may stand as number fullAt among fullRow, for
// fullCells cells, with no field 0 that it uses.
func full(op int) impl.Ins {
	i := impl.Ins{Op: op}
	for k, field := range usedFields[op] {
		i = set(i, field, k%2+1)
	}
	if op == impl.InZero || op == impl.InJump {
		i.N = fullAt + 1
	}
	return i
}

func fits(i impl.Ins) bool {
	return impl.InsOk(i, fullAt, fullCells, fullRow)
}

// manyIns are instructions of all Ops, and of some that are none, with fields
// inside and outside of what is allowed.
func manyIns() []impl.Ins {
	var out []impl.Ins
	for op := 0; op <= 15; op++ {
		for _, r := range []int{-1, 0, 5, 6} {
			for _, a := range []int{0, 1, 6} {
				for _, b := range []int{0, 5} {
					for x := -1; x <= 4; x++ {
						for n := -1; n <= 4; n++ {
							out = append(out, impl.Ins{Op: op, R: r, A: a, B: b, X: x, N: n})
						}
					}
				}
			}
		}
	}
	return out
}

func fences(n int) impl.Thread {
	t := impl.Thread{}
	for range n {
		t.L = append(t.L, impl.Ins{Op: impl.InFence})
	}
	return t
}

// sample is a program with each Op.
func sample() impl.Prog {
	t := impl.Thread{}
	for op := impl.InSet; op <= impl.InCas; op++ {
		t.L = append(t.L, full(op))
	}
	t.L = append(t.L, impl.Ins{Op: impl.InFence}, impl.Ins{Op: impl.InZero, A: 1, N: 13}, impl.Ins{Op: impl.InJump, N: 14})
	return impl.Prog{Init: []int{7, -3, 0, math.MinInt}, T: []impl.Thread{t, {}, fences(2)}}
}

func copyProg(p impl.Prog) impl.Prog {
	out := impl.Prog{Init: append([]int{}, p.Init...)}
	for _, t := range p.T {
		out.T = append(out.T, impl.Thread{L: append([]impl.Ins{}, t.L...)})
	}
	return out
}
