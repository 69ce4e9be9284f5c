package tests

import (
	"math"
	"slices"
	"testing"

	"loop.example/g00713/impl"
)

// withRegisters is the outcome of so many threads in which all registers are 0
// but those that the conditions tell.
func withRegisters(threads int, c ...impl.Cond) impl.Outcome {
	o := impl.Outcome{R: make([]int, threads*impl.Regs)}
	for _, x := range c {
		o.R[x.T*impl.Regs+x.R] = x.Val
	}
	return o
}

func TestOutcomesWrittenOut(t *testing.T) {
	loaded := func(a int, b int) impl.Outcome {
		return withRegisters(2, cond(0, 1, 1), cond(1, 1, 1), cond(0, 0, a), cond(1, 0, b))
	}
	wantOutcomes(t, crossed(), impl.KdOne, maxStates, loaded(0, 1), loaded(1, 0), loaded(1, 1))
	wantOutcomes(t, crossed(), impl.KdBuf, maxStates, loaded(0, 0), loaded(0, 1), loaded(1, 0), loaded(1, 1))
	wantOutcomes(t, crossed(), impl.KdView, maxStates, loaded(0, 0), loaded(0, 1), loaded(1, 0), loaded(1, 1))
	for _, kind := range kinds {
		wantOutcomes(t, crossed(insFence), kind, maxStates, loaded(0, 1), loaded(1, 0), loaded(1, 1))
		wantOutcomes(t, threeLoads(), kind, maxStates, withRegisters(3, cond(0, 0, 7), cond(1, 0, 8), cond(2, 0, 9)))
	}
}

// An outcome that is got at in several ways, or in several states, is one.
func TestOutcomesEachOnce(t *testing.T) {
	// Whoever is last, and whatever the cell is then, no register tells.
	p := progOf([]int{0}, row(insStore(0, 1), insSet(1, 3)), row(insSet(2, 4), insStore(0, 2)), row(insStore(0, 1), insFence))
	q := progOf([]int{0, 1}, row(insLoad(0, 0), insLoad(1, 1), insSet(0, 0)), row(insStore(0, 1), insSet(1, 5), insStore(0, 1)))
	for _, kind := range kinds {
		wantOutcomes(t, p, kind, maxStates, withRegisters(3, cond(0, 1, 3), cond(1, 2, 4)))
		wantOutcomes(t, q, kind, maxStates, withRegisters(2, cond(0, 1, 1), cond(1, 1, 5)))
	}
}

// By the first number that is not the same, be it below 0 or far from it.
func TestOutcomesOrder(t *testing.T) {
	for _, vals := range [][3]int{{-1, 0, 5}, {math.MinInt, -2, math.MaxInt}, {-10, -9, 100}, {math.MinInt, 0, math.MaxInt}} {
		for _, order := range [][3]int{{0, 1, 2}, {1, 0, 2}, {2, 1, 0}, {1, 2, 0}} {
			p := progOf([]int{vals[order[0]]}, row(insLoad(2, 0)), row(insLoad(4, 0)),
				row(insSet(1, vals[order[1]]), insStore(0, 1), insSet(1, vals[order[2]]), insStore(0, 1), insSet(1, 0)))
			var want []impl.Outcome
			for _, a := range vals {
				for _, b := range vals {
					want = append(want, withRegisters(3, cond(0, 2, a), cond(1, 4, b)))
				}
			}
			for _, kind := range kinds {
				wantOutcomes(t, p, kind, maxStates, want...)
			}
		}
	}
}

// Each register of each thread may be the one that tells two outcomes apart.
func TestOutcomesEachRegister(t *testing.T) {
	for k := range impl.MaxThreads {
		for r := range impl.Regs {
			p := progOf([]int{3}, make([]impl.Thread, impl.MaxThreads)...)
			p.T[k] = row(insLoad(r, 0))
			p.T[(k+1)%impl.MaxThreads] = row(insSet(5, -3), insStore(0, 5), insSet(5, 0))
			for _, kind := range kinds {
				wantOutcomes(t, p, kind, maxStates, withRegisters(3, cond(k, r, -3)), withRegisters(3, cond(k, r, 3)))
			}
		}
	}
}

func TestOutcomesAgainstTheRule(t *testing.T) {
	several := 0
	for _, p := range searchedProgs() {
		for _, kind := range kinds {
			want := outcomesAmong(p, everyState(t, p, kind))
			n, _ := impl.States(p, kind, maxStates)
			wantOutcomes(t, p, kind, maxStates, want...)
			wantOutcomes(t, p, kind, n, want...)
			if len(want) > 1 {
				several++
			}
		}
	}
	if several < 60 {
		t.Errorf("only %d searches with more than one outcome", several)
	}
}

// asked are small programs, and whether what is asked for may come of them, by
// each kind.
func asked() []struct {
	p   impl.Prog
	c   []impl.Cond
	may [3]bool
} {
	one := insSet(1, 1)
	two := insSet(2, 2)
	// Each ends with what the other one has stored first.
	twice := progOf([]int{0, 0}, row(one, two, insStore(0, 1), insStore(1, 2), insLoad(0, 1)), row(one, two, insStore(1, 1), insStore(0, 2), insLoad(0, 0)))
	message := progOf([]int{0, 0}, row(one, insStore(0, 1), insStore(1, 1)), row(insLoad(2, 1), insLoad(3, 0)))
	passedOn := progOf([]int{0, 0}, row(one, insStore(0, 1)), row(insLoad(2, 0), insStore(1, 2)), row(insLoad(2, 1), insLoad(3, 0)))
	other := progOf([]int{0, 0}, row(one, insStore(0, 1)), row(insLoad(2, 0), insLoad(3, 1)), row(one, insStore(1, 1), insLoad(3, 0)))
	back := progOf([]int{0}, row(one, insStore(0, 1)), row(insLoad(2, 0), insLoad(3, 0)))
	ahead := progOf([]int{0, 0}, row(insLoad(2, 0), one, insStore(1, 1)), row(insLoad(2, 1), one, insStore(0, 1)))
	swaps := progOf([]int{0}, row(one, insCas(0, 0, 2, 1)), row(one, insCas(0, 0, 2, 1)))
	return []struct {
		p   impl.Prog
		c   []impl.Cond
		may [3]bool
	}{
		{crossed(), []impl.Cond{cond(0, 0, 0), cond(1, 0, 0)}, [3]bool{false, true, true}},
		{crossed(insFence), []impl.Cond{cond(0, 0, 0), cond(1, 0, 0)}, [3]bool{}},
		{crossed(), []impl.Cond{cond(0, 0, 1), cond(1, 0, 1)}, [3]bool{true, true, true}},
		{crossed(), []impl.Cond{cond(0, 0, 1), cond(0, 0, 0)}, [3]bool{}},
		{twice, []impl.Cond{cond(0, 0, 1), cond(1, 0, 1)}, [3]bool{false, false, true}},
		{message, []impl.Cond{cond(1, 2, 1), cond(1, 3, 0)}, [3]bool{}},
		{message, []impl.Cond{cond(1, 2, 0), cond(1, 3, 1)}, [3]bool{true, true, true}},
		{passedOn, []impl.Cond{cond(1, 2, 1), cond(2, 2, 1), cond(2, 3, 0)}, [3]bool{}},
		{other, []impl.Cond{cond(1, 2, 1), cond(1, 3, 0), cond(2, 3, 0)}, [3]bool{false, true, true}},
		{back, []impl.Cond{cond(1, 2, 1), cond(1, 3, 0)}, [3]bool{}},
		{back, []impl.Cond{cond(1, 2, 0), cond(1, 3, 1)}, [3]bool{true, true, true}},
		{ahead, []impl.Cond{cond(0, 2, 1), cond(1, 2, 1)}, [3]bool{}},
		{swaps, []impl.Cond{cond(0, 0, 1), cond(1, 0, 1)}, [3]bool{}},
		{swaps, []impl.Cond{cond(0, 0, 0), cond(1, 0, 0)}, [3]bool{}},
		{swaps, []impl.Cond{cond(0, 0, 0), cond(1, 0, 1)}, [3]bool{true, true, true}},
	}
}

func TestMayWrittenOut(t *testing.T) {
	for _, x := range asked() {
		for _, kind := range kinds {
			if impl.May(x.p, kind, maxStates, x.c) != x.may[kind] {
				t.Errorf("kind %d: whether %v may come of %+v is %v", kind, x.c, x.p, !x.may[kind])
			}
			if impl.May(x.p, kind, 3, x.c) || !impl.May(x.p, kind, maxStates, nil) {
				t.Errorf("kind %d: %+v may come out where there are too many states, or not at all", kind, x.p)
			}
		}
	}
}

// someConds are conditions that some outcomes meet, and some that none does.
func someConds(l []impl.Outcome) [][]impl.Cond {
	out := [][]impl.Cond{nil, {}, {cond(-1, 0, 0)}, {cond(0, -1, 0)}, {cond(0, impl.Regs, 0)}, {cond(math.MaxInt, 0, 0)}, {cond(0, 0, 77)}, {cond(0, 5, 0)}}
	for k, o := range l {
		if k < 4 || k == len(l)-1 {
			last := len(o.R) - 1
			out = append(out, condsOf(o), condsOf(o)[:1], condsOf(o)[last:], append(condsOf(o), cond(0, 0, o.R[0]+1)), append(condsOf(o), cond(last/impl.Regs+1, 0, 0)))
		}
	}
	return out
}

// condsOf are the conditions that this outcome alone meets.
func condsOf(o impl.Outcome) []impl.Cond {
	var out []impl.Cond
	for k, val := range o.R {
		out = append(out, cond(k/impl.Regs, k%impl.Regs, val))
	}
	return out
}

func TestMayAgainstTheRule(t *testing.T) {
	for _, p := range searchedProgs() {
		for _, kind := range kinds {
			states := everyState(t, p, kind)
			for _, c := range someConds(outcomesAmong(p, states)) {
				want := slices.ContainsFunc(states, func(s impl.State) bool { return impl.Done(p, s) && metBy(s, c) })
				if impl.May(p, kind, maxStates, c) != want {
					t.Fatalf("kind %d: whether %v may come of %+v is %v", kind, c, p, !want)
				}
			}
		}
	}
}

func wantMeets(t *testing.T, want bool, o impl.Outcome, c ...impl.Cond) {
	t.Helper()
	if impl.Meets(o, c) != want {
		t.Errorf("whether %v meets %v is %v", o.R, c, !want)
	}
}

func TestMeets(t *testing.T) {
	o := outcome(10, 11, 12, 13, 14, 15, 20, 21, 22, 23, 24, 25)
	wantMeets(t, true, o)
	wantMeets(t, true, impl.Outcome{})
	for k, val := range o.R {
		wantMeets(t, true, o, cond(k/6, k%6, val))
		for _, other := range append([]int{0, val - 1, val + 1, -val}, farInts...) {
			wantMeets(t, false, o, cond(k/6, k%6, other))
		}
	}
	wantMeets(t, true, o, condsOf(o)...)
	wantMeets(t, true, o, cond(1, 5, 25), cond(0, 0, 10), cond(1, 5, 25))
	// Each is to be met, the first and the last one, too.
	wantMeets(t, false, o, cond(1, 5, 24), cond(0, 0, 10), cond(0, 1, 11))
	wantMeets(t, false, o, cond(1, 5, 25), cond(0, 0, 11), cond(0, 1, 11))
	wantMeets(t, false, o, cond(1, 5, 25), cond(0, 0, 10), cond(0, 1, 12))
	wantMeets(t, false, o, cond(0, 0, 10), cond(0, 0, 11))
}

// A register that is none meets nothing, though its number would be one of the
// outcome's.
func TestMeetsNoRegister(t *testing.T) {
	for _, o := range []impl.Outcome{{R: make([]int, 12)}, {R: make([]int, 18)}, {R: make([]int, 6)}} {
		for _, r := range append([]int{impl.Regs, impl.Regs + 1, 2*impl.Regs - 1}, farInts...) {
			for _, threads := range []int{0, 1, 2} {
				wantMeets(t, false, o, cond(threads, r, 0))
				wantMeets(t, false, o, cond(0, 0, 0), cond(threads, r, 0))
			}
		}
		wantMeets(t, true, o, cond(0, 0, 0), cond(0, impl.Regs-1, 0))
	}
}

func TestMeetsNoThread(t *testing.T) {
	for n := range 4 {
		o := impl.Outcome{R: make([]int, n*impl.Regs)}
		for k := range n {
			wantMeets(t, true, o, cond(k, 0, 0), cond(k, impl.Regs-1, 0))
		}
		for r := range impl.Regs {
			for _, threads := range append([]int{n, n + 1, -2}, farInts...) {
				wantMeets(t, false, o, cond(threads, r, 0))
			}
		}
		wantMeets(t, n > 0, o, cond(0, 0, 0))
	}
}

// The product of T and Regs is that of whole numbers: it does not wrap.
func TestMeetsFarThread(t *testing.T) {
	o := impl.Outcome{R: make([]int, 3*impl.Regs)}
	for r := range impl.Regs {
		for turns := 1; turns <= 2; turns++ {
			// Some of these T, times Regs, are turns times 2 to the 64th and a little.
			near := int(math.MaxUint64/uint64(impl.Regs))*turns - 2
			for d := range 8 {
				wantMeets(t, false, o, cond(near+d, r, 0))
			}
		}
		wantMeets(t, false, o, cond(math.MaxInt/impl.Regs, r, 0))
		wantMeets(t, false, o, cond(math.MaxInt/impl.Regs+1, r, 0))
		wantMeets(t, false, o, cond(math.MaxInt, r, 0))
		wantMeets(t, false, o, cond(math.MinInt, r, 0))
	}
}

// An outcome that has fewer numbers than threads have registers.
func TestMeetsFewerNumbers(t *testing.T) {
	for n := range 3 * impl.Regs {
		o := impl.Outcome{R: make([]int, n)}
		for k := range 4 * impl.Regs {
			wantMeets(t, k < n, o, cond(k/impl.Regs, k%impl.Regs, 0))
		}
	}
}

func wantWithin(t *testing.T, want bool, a []impl.Outcome, b []impl.Outcome) {
	t.Helper()
	if impl.Within(a, b) != want {
		t.Errorf("whether %v is within %v is %v", a, b, !want)
	}
}

func TestWithin(t *testing.T) {
	one, two, three := outcome(1, 2, 3), outcome(-1, 2, 3), outcome(1, 2, 4)
	all := []impl.Outcome{one, two, three}
	wantWithin(t, true, all, all)
	for k := range all {
		wantWithin(t, true, all[k:k+1], all)
		wantWithin(t, false, all, all[k:k+1])
		wantWithin(t, true, slices.Delete(slices.Clone(all), k, k+1), all)
		wantWithin(t, false, all, slices.Delete(slices.Clone(all), k, k+1))
	}
	// Neither the order counts, nor how often one stands there.
	wantWithin(t, true, all, []impl.Outcome{three, two, one})
	wantWithin(t, true, []impl.Outcome{two, two, one, two}, []impl.Outcome{one, three, two})
	wantWithin(t, true, []impl.Outcome{one}, []impl.Outcome{one, one})
	wantWithin(t, false, []impl.Outcome{one, one, two}, []impl.Outcome{one, one, three})
}

func TestWithinEmpty(t *testing.T) {
	empty := []impl.Outcome{{}}
	for _, none := range [][]impl.Outcome{nil, {}} {
		for _, l := range [][]impl.Outcome{nil, {}, empty, {outcome(1)}} {
			wantWithin(t, true, none, l)
			wantWithin(t, len(l) == 0, l, none)
		}
	}
	wantWithin(t, true, empty, []impl.Outcome{{R: []int{}}})
	wantWithin(t, true, []impl.Outcome{{R: []int{}}}, empty)
	wantWithin(t, false, empty, []impl.Outcome{outcome(0)})
	wantWithin(t, false, []impl.Outcome{outcome(0)}, empty)
}

// Outcomes of other lengths are not the same, nor those whose digits are.
func TestWithinLengths(t *testing.T) {
	rows := [][]int{
		{}, {0}, {0, 0}, {1}, {1, 0}, {0, 1}, {1, 1}, {11}, {1, 1, 1}, {11, 1}, {1, 11}, {111}, {-1}, {1, -1}, {-1, 1}, {-11},
		{math.MinInt}, {math.MaxInt}, {math.MinInt, math.MaxInt}, {math.MaxInt, math.MinInt}, {1 << 32}, {1 << 32, 0}, {2, 1, 1}, {3, 1, 1, 1},
	}
	for k, a := range rows {
		for j, b := range rows {
			wantWithin(t, k == j, []impl.Outcome{{R: a}}, []impl.Outcome{{R: b}})
			wantWithin(t, k == j || k == 3, []impl.Outcome{{R: a}}, []impl.Outcome{{R: b}, {R: rows[3]}})
		}
	}
}

// Of more outcomes than there are states each is looked for.
func TestWithinMany(t *testing.T) {
	var l, m []impl.Outcome
	for k := range 3 * maxStates {
		l = append(l, outcome(k, 0, -k))
		m = append(m, outcome(3*maxStates-1-k, 0, k-3*maxStates+1))
	}
	wantWithin(t, true, l, m)
	m[maxStates] = outcome(5, 1, -5)
	if impl.Within(l, m) || impl.Within(m, l) {
		t.Error("one is not among them")
	}
}
