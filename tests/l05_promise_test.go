package tests

import (
	"fmt"
	"math/rand"
	"testing"

	"loop.example/g00713/impl"
)

// walkedProgs are small programs in which threads meet at the same cells.
func walkedProgs() []impl.Prog {
	return []impl.Prog{
		progOf([]int{0}, row()),
		progOf([]int{3, 4}, row(), row(insFence), row()),
		threeLoads(),
		// Each stores its own cell, then loads the other's.
		progOf([]int{0, 0}, row(insSet(1, 1), insStore(0, 1), insLoad(2, 1)), row(insSet(1, 1), insStore(1, 1), insLoad(2, 0))),
		progOf([]int{0, 0}, row(insSet(1, 1), insStore(0, 1), insFence, insLoad(2, 1)), row(insSet(1, 1), insStore(1, 1), insFence, insLoad(2, 0))),
		// One writes two cells, another reads them the other way round.
		progOf([]int{0, 0}, row(insSet(1, 1), insStore(0, 1), insStore(1, 1)), row(insLoad(2, 1), insLoad(3, 0)), row(insFence, insLoad(2, 0))),
		// All swap one cell.
		progOf([]int{0}, row(insSet(1, 1), insCas(0, 0, 2, 1)), row(insSet(1, 2), insCas(0, 0, 2, 1)), row(insSet(1, 3), insCas(0, 0, 2, 1), insLoad(3, 0))),
		// More stores than a buffer holds, and what reads between them.
		progOf([]int{5, 6}, row(insStore(0, 1), insStore(1, 1), insStore(0, 1), insStore(0, 1), insStore(1, 1), insCas(2, 0, 1, 3)), row(insLoad(1, 1))),
		// Stores, swaps and fences, so that Glue stands between others.
		progOf([]int{0, 1}, row(insSet(1, 1), insCas(0, 0, 2, 1), insStore(1, 1), insFence), row(insSet(1, 2), insStore(0, 1), insLoad(2, 1), insCas(0, 0, 1, 2)), row(insFence, insCas(0, 1, 0, 1))),
		// Cells and jumps by what was read.
		progOf([]int{0, 1, 2}, row(insLoad(1, 0), insZero(1, 4), insStoreAt(0, 1, 3, 1), insJump(5), insLoadAt(2, 1, 1, 2)), row(insSet(2, -1), insStoreAt(0, 2, 3, 2), insCas(3, 0, 4, 2))),
	}
}

// randomIns is an instruction that may stand as number at among n.
func randomIns(r *rand.Rand, at int, cells int, n int) impl.Ins {
	for {
		i := impl.Ins{Op: impl.InSet + r.Intn(impl.InJump)}
		for _, field := range usedFields[i.Op] {
			i = set(i, field, r.Intn(impl.Regs))
		}
		if i.Op == impl.InSet {
			i.N -= 2
		}
		if impl.InsOk(i, at, cells, n) {
			return i
		}
	}
}

func randomProg(r *rand.Rand) impl.Prog {
	p := impl.Prog{}
	for range 1 + r.Intn(impl.MaxCells) {
		p.Init = append(p.Init, r.Intn(3)-1)
	}
	for range 1 + r.Intn(impl.MaxThreads) {
		t := impl.Thread{}
		n := r.Intn(impl.MaxIns + 1)
		for at := range n {
			t.L = append(t.L, randomIns(r, at, len(p.Init), n))
		}
		p.T = append(p.T, t)
	}
	return p
}

// leftOf is how many moves there still may be: one for each instruction that
// is left, one more for what it stores, and one for each write that waits.
func leftOf(p impl.Prog, s impl.State) int {
	n := 0
	for k, t := range p.T {
		n += 2 * (len(t.L) - s.Pc[k])
	}
	for _, b := range s.Bufs {
		n += len(b.L)
	}
	return n
}

// checkMove holds a move that is done against what goes for all of them.
func checkMove(t *testing.T, p impl.Prog, s impl.State, m impl.Move) impl.State {
	t.Helper()
	next, ok := impl.Do(p, s, m)
	if !ok || !impl.StateOk(p, next) {
		t.Fatalf("%v of %+v leads to %+v, %v, which is no state", m, s, next, ok)
	}
	if leftOf(p, next) >= leftOf(p, s) {
		t.Fatalf("%v of %+v leads to %+v, which is not nearer to an end", m, s, next)
	}
	for k := range p.T {
		if stays := m.Kind == impl.MvFlush || m.T != k; stays && (s.Pc[k] != next.Pc[k] || !sameValue(s.F[k], next.F[k])) {
			t.Fatalf("%v of %+v leads to %+v, where thread %d has gone on", m, s, next, k)
		}
	}
	return next
}

// checkState holds a state's moves against what goes for all states.
func checkState(t *testing.T, p impl.Prog, s impl.State) []impl.Move {
	t.Helper()
	moves := impl.Moves(p, s)
	if impl.Done(p, s) != (len(moves) == 0) {
		t.Fatalf("%+v has the moves %v", s, moves)
	}
	for k, m := range moves {
		if k > 0 && !ahead(moves[k-1], m) {
			t.Fatalf("%+v has the moves %v", s, moves)
		}
	}
	return moves
}

// ahead tells whether a stands ahead of b: by T, the steps first, by C.
func ahead(a impl.Move, b impl.Move) bool {
	if a.T != b.T {
		return a.T < b.T
	}
	if a.Kind != b.Kind {
		return a.Kind == impl.MvStep
	}
	return a.C < b.C
}

// reachAll goes through all states that are got at from s.
func reachAll(t *testing.T, p impl.Prog, s impl.State, seen map[string]bool) {
	t.Helper()
	key := fmt.Sprint(s)
	if seen[key] {
		return
	}
	seen[key] = true
	for _, m := range checkState(t, p, s) {
		reachAll(t, p, checkMove(t, p, s, m), seen)
	}
}

// Promise 5, for all that may happen.
func TestAllMovesLeadToStates(t *testing.T) {
	n := 0
	for _, p := range walkedProgs() {
		for _, kind := range kinds {
			seen := map[string]bool{}
			reachAll(t, p, started(t, p, kind), seen)
			n += len(seen)
		}
	}
	if n < 1000 {
		t.Errorf("only %d states", n)
	}
}

// Promise 5, for what is picked in longer programs.
func TestPickedMovesLeadToStates(t *testing.T) {
	r := rand.New(rand.NewSource(5))
	for range 300 {
		p := randomProg(r)
		for _, kind := range kinds {
			s, picks := started(t, p, kind), []int{}
			for moves := checkState(t, p, s); len(moves) > 0; moves = checkState(t, p, s) {
				picks = append(picks, r.Int()-r.Int())
				s = checkMove(t, p, s, moves[pickOf(picks[len(picks)-1], len(moves))])
			}
			wantRun(t, p, started(t, p, kind), picks, s, len(picks))
		}
	}
}

// Promise 5, for states that are not got at from a start.
func TestMovesOfOtherStatesLeadToStates(t *testing.T) {
	p := writtenProg()
	for pc0 := range 5 {
		for pc1 := range 5 {
			reachAll(t, p, viewed(t, pc0, pc1), map[string]bool{})
			for n := range impl.MaxBuf + 1 {
				s := startedWith(t, p, impl.KdBuf, func(s *impl.State) {
					s.Pc, s.Bufs = []int{pc0, pc1}, []impl.Buf{bufOf(n), bufOf(impl.MaxBuf - n)}
				})
				reachAll(t, p, s, map[string]bool{})
			}
		}
	}
}

// moveAnswer is what the functions of moves answer.
type moveAnswer struct {
	Moves []impl.Move
	Done  []impl.State
	Run   []impl.State
}

func moveAnswers(p impl.Prog, s impl.State, picks []int) moveAnswer {
	a := moveAnswer{Moves: impl.Moves(p, s)}
	for _, m := range append(impl.Moves(p, s), step(9, 9)) {
		next, _ := impl.Do(p, s, m)
		a.Done = append(a.Done, next)
	}
	for n := range len(picks) + 1 {
		end, _ := impl.Run(p, s, picks[:n])
		a.Run = append(a.Run, end)
	}
	return a
}

func wantNewMemory(t *testing.T, p impl.Prog, s impl.State, picks []int) {
	t.Helper()
	oldProg, oldState, oldPicks := deepCopy(p), deepCopy(s), deepCopy(picks)
	a := moveAnswers(p, s, picks)
	if sharesMemory(a, p, s, picks) {
		t.Fatalf("what %+v leads to shares memory: %+v", s, a)
	}
	if !wholeSame(p, oldProg) || !wholeSame(s, oldState) || !wholeSame(picks, oldPicks) {
		t.Fatalf("%+v was changed to %+v", oldState, s)
	}
	// Nothing is kept from one call to another.
	if again := moveAnswers(p, s, picks); !sameValue(a, again) || sharesMemory([]moveAnswer{a, again}) {
		t.Fatalf("%+v and then %+v", a, again)
	}
}

// memoryStates are states on the way of a program, by all kinds, with the room
// that moves have left behind lists, and with none.
func memoryStates(t *testing.T, p impl.Prog) []impl.State {
	t.Helper()
	var out []impl.State
	for _, kind := range kinds {
		s := started(t, p, kind)
		for k := range 12 {
			out = append(out, s, deepCopy(s))
			moves := impl.Moves(p, s)
			if len(moves) == 0 {
				break
			}
			s, _ = impl.Do(p, s, moves[k*k%len(moves)])
		}
	}
	return out
}

func TestMovesAreNewMemory(t *testing.T) {
	for _, p := range append(walkedProgs()[1:], sample()) {
		for _, s := range memoryStates(t, p) {
			wantNewMemory(t, p, s, []int{1, -1, 0, 5})
			wantNewMemory(t, withRoom(p), withRoom(s), withRoom([]int{1, -1, 0, 5}))
		}
	}
	for pc0 := range 5 {
		for pc1 := range 5 {
			wantNewMemory(t, writtenProg(), viewed(t, pc0, pc1), []int{2, 1, 0})
			wantNewMemory(t, withRoom(writtenProg()), withRoom(viewed(t, pc0, pc1)), withRoom([]int{2, 1, 0}))
		}
	}
}

// What is written into one answer is not seen in another, nor in the state
// that both come of.
func TestMovesAnswersAreTheirOwn(t *testing.T) {
	p := writtenProg()
	s := viewed(t, 3, 3)
	was := deepCopy(s)
	a, _ := impl.Do(p, s, step(0, 0))
	b, _ := impl.Do(p, s, step(0, 0))
	kept := deepCopy(b)
	fillAll(&a)
	if !sameValue(s, was) || !sameValue(b, kept) {
		t.Errorf("%+v and %+v were changed", s, b)
	}
	c, _ := impl.Run(p, s, nil)
	fillAll(&c)
	if !sameValue(s, was) {
		t.Errorf("%+v was changed", s)
	}
}

// fillAll writes into each list of a state.
func fillAll(s *impl.State) {
	for k := range s.Pc {
		s.Pc[k], s.F[k].R[0], s.View[k].R[0] = 99, 99, 99
	}
	for x := range s.H {
		s.Sc[x] = 99
		for place := range s.H[x].L {
			post := &s.H[x].L[place]
			post.Val, post.View[x] = 99, 99
		}
	}
}
