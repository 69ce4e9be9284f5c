package impl

const MaxThreads = 3
const MaxIns = 24
const MaxCells = 6
const Regs = 6

const (
	InSet = iota + 1
	InMov
	InAdd
	InSub
	InLess
	InSame
	InLoad
	InStore
	InLoadAt
	InStoreAt
	InCas
	InFence
	InZero
	InJump
)

type Ins struct {
	Op int
	R  int
	A  int
	B  int
	X  int
	N  int
}

type Thread struct {
	L []Ins
}

type Prog struct {
	Init []int
	T    []Thread
}

// The places of an instruction's fields, without Op, in arrays about them.
const (
	fieldR = iota
	fieldA
	fieldB
	fieldX
	fieldN
	fieldCount
)

type fieldValues [fieldCount]int

type fieldFlags [fieldCount]bool

const (
	touchesNothing = iota
	touchesRead
	touchesWrite
	touchesBoth
)

// opKind is what the Op of an instruction stands for.
type opKind int

func (k opKind) known() bool {
	return InSet <= k && k <= InJump
}

func (k opKind) uses() fieldFlags {
	switch k {
	case InSet:
		return fieldFlags{fieldR: true, fieldN: true}
	case InMov:
		return fieldFlags{fieldR: true, fieldA: true}
	case InAdd, InSub, InLess, InSame:
		return fieldFlags{fieldR: true, fieldA: true, fieldB: true}
	case InLoad:
		return fieldFlags{fieldR: true, fieldX: true}
	case InStore:
		return fieldFlags{fieldA: true, fieldX: true}
	case InLoadAt:
		return fieldFlags{fieldR: true, fieldA: true, fieldX: true, fieldN: true}
	case InStoreAt:
		return fieldFlags{fieldA: true, fieldB: true, fieldX: true, fieldN: true}
	case InCas:
		return fieldFlags{fieldR: true, fieldA: true, fieldB: true, fieldX: true}
	case InZero:
		return fieldFlags{fieldA: true, fieldN: true}
	case InJump:
		return fieldFlags{fieldN: true}
	default:
		return fieldFlags{}
	}
}

func (k opKind) touches() int {
	switch k {
	case InLoad, InLoadAt:
		return touchesRead
	case InStore, InStoreAt:
		return touchesWrite
	case InCas:
		return touchesBoth
	default:
		return touchesNothing
	}
}

func (i Ins) kind() opKind {
	return opKind(i.Op)
}

func (i Ins) fields() fieldValues {
	return fieldValues{fieldR: i.R, fieldA: i.A, fieldB: i.B, fieldX: i.X, fieldN: i.N}
}

func (i Ins) unusedAreZero() bool {
	uses := i.kind().uses()
	for field, value := range i.fields() {
		if value != 0 && !uses[field] {
			return false
		}
	}
	return true
}

func isRegister(r int) bool {
	return 0 <= r && r < Regs
}

func (i Ins) registersOk() bool {
	return isRegister(i.R) && isRegister(i.A) && isRegister(i.B)
}

// cellCount is how many cells, from X on, a memory instruction may be about.
func (i Ins) cellCount() int {
	switch i.kind() {
	case InLoad, InStore, InCas:
		return 1
	case InLoadAt, InStoreAt:
		return i.N
	default:
		return 0
	}
}

func (i Ins) cellsOk(cells int) bool {
	if i.kind().touches() == touchesNothing {
		return true
	}
	count := i.cellCount()
	// The difference is taken last: with 1 <= count <= cells it can't wrap.
	return 1 <= count && count <= cells && 0 <= i.X && i.X <= cells-count
}

func (i Ins) jumpOk(at int, n int) bool {
	switch i.kind() {
	case InZero, InJump:
		// Not at + 1 <= N: that sum wraps at the largest int.
		return at < i.N && i.N <= n
	default:
		return true
	}
}

func InsOk(i Ins, at int, cells int, n int) bool {
	return i.kind().known() && i.unusedAreZero() && i.registersOk() && i.cellsOk(cells) && i.jumpOk(at, n)
}

func (t Thread) ok(cells int) bool {
	if len(t.L) > MaxIns {
		return false
	}
	for at, i := range t.L {
		if !InsOk(i, at, cells, len(t.L)) {
			return false
		}
	}
	return true
}

func ProgOk(p Prog) bool {
	cells, threads := len(p.Init), len(p.T)
	if cells < 1 || cells > MaxCells || threads < 1 || threads > MaxThreads {
		return false
	}
	for _, t := range p.T {
		if !t.ok(cells) {
			return false
		}
	}
	return true
}

func Touches(i Ins, cell int) int {
	// X plus a rest wraps as all sums do, and so does this way back to the rest.
	rest := cell - i.X
	if rest < 0 || rest >= i.cellCount() {
		return touchesNothing
	}
	return i.kind().touches()
}

// sameRow goes by pieces, as a row that is no program's may be longer than
// any array.
func sameRow[E comparable](a []E, b []E) bool {
	if len(a) != len(b) {
		return false
	}
	for from := 0; from < len(a); from += MaxIns {
		if pieceOf(a, from) != pieceOf(b, from) {
			return false
		}
	}
	return true
}

func pieceOf[E comparable](row []E, from int) [MaxIns]E {
	var piece [MaxIns]E
	copy(piece[:], row[from:])
	return piece
}

func SameProg(a Prog, b Prog) bool {
	if !sameRow(a.Init, b.Init) || len(a.T) != len(b.T) {
		return false
	}
	for k := range a.T {
		if !sameRow(a.T[k].L, b.T[k].L) {
			return false
		}
	}
	return true
}
