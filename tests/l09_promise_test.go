package tests

import (
	"math/rand"
	"slices"
	"testing"

	"loop.example/g00713/impl"
)

// checkPool holds a pool that has been come to against the promise.
func checkPool(t *testing.T, p impl.Pool) {
	t.Helper()
	if !impl.PoolOk(p) {
		t.Fatalf("no pool: %+v", p)
	}
	standing := 0
	for _, row := range p.Dq {
		standing += len(row.L)
	}
	v, done := impl.Answer(p)
	if done != p.Done[0] || done == (standing > 0) {
		t.Fatalf("the answer is %d, %v, and %d jobs stand in rows: %+v", v, done, standing, p)
	}
	if done && (v != impl.Serial(p.L) || slices.Contains(p.Ran, false) || slices.Contains(p.Done, false)) {
		t.Fatalf("the answer is %d, want %d: %+v", v, impl.Serial(p.L), p)
	}
}

// newlyRan are the jobs that have Ran behind something and had not ahead of it.
func newlyRan(t *testing.T, before impl.Pool, after impl.Pool) []int {
	t.Helper()
	var out []int
	for k := range before.L {
		if before.Ran[k] && !after.Ran[k] {
			t.Fatalf("job %d had Ran and has not any more: %+v and then %+v", k, before, after)
		}
		if !before.Ran[k] && after.Ran[k] {
			out = append(out, k)
		}
	}
	return out
}

// checkPick holds what a pick does against the promise: who takes runs just one
// job, that had not been run, and who steals runs none.
func checkPick(t *testing.T, p impl.Pool, k impl.Pick) (impl.Pool, []int) {
	t.Helper()
	next, n := impl.Play(p, []impl.Pick{k})
	checkPool(t, next)
	ran := newlyRan(t, p, next)
	want := 0
	if n == 1 && k.W == k.V {
		want = 1
	}
	if len(ran) != want || !sameValue(next.L, p.L) || len(next.Dq) != len(p.Dq) {
		t.Fatalf("%+v runs %v, want %d: %+v and then %+v", k, ran, want, p, next)
	}
	return next, ran
}

// Promise 9, for all that may be picked of small trees.
func TestWhoeverTakesTheAnswerIsTheSame(t *testing.T) {
	for _, l := range treesUpTo(6) {
		for workers := 1; workers <= 3 && workers+len(l) <= 8; workers++ {
			ends := 0
			for _, p := range everyPool(t, l, workers) {
				checkPool(t, p)
				for _, k := range allPicks(workers) {
					checkPick(t, p, k)
				}
				if p.Done[0] {
					if ends++; !sameValue(p, allRan(l, workers)) {
						t.Fatalf("in the end there is %+v", p)
					}
				}
			}
			if ends != 1 {
				t.Fatalf("%d ends of %v with %d workers", ends, l, workers)
			}
		}
	}
}

// Promise 9, pick by pick up to the end: each job is run, once.
func TestEachJobIsRunOnce(t *testing.T) {
	r := rand.New(rand.NewSource(49))
	trees := [][]impl.Job{chain(maxJobs, 1), star(maxJobs, 1), {job(1)}, fourJobs()}
	for range 60 {
		trees = append(trees, randomTree(r, 1+r.Intn(maxJobs)))
	}
	for _, l := range trees {
		for workers := 1; workers <= maxWorkers; workers++ {
			p, ran := newPool(t, l, workers), []int{}
			for round := 0; !p.Done[0]; round++ {
				if round == 200 {
					t.Fatalf("nothing more is done: %+v", p)
				}
				for _, k := range randomPicks(r, 20, workers) {
					next, now := checkPick(t, p, k)
					p, ran = next, append(ran, now...)
				}
			}
			slices.Sort(ran)
			for k := range l {
				if len(ran) != len(l) || ran[k] != k {
					t.Fatalf("of %v have been run %v", l, ran)
				}
			}
			if !sameValue(p, allRan(l, workers)) {
				t.Fatalf("in the end there is %+v", p)
			}
		}
	}
}

// Promise 9, by rows of picks.
func TestWhateverIsPlayedIsAPool(t *testing.T) {
	r := rand.New(rand.NewSource(59))
	ends := 0
	for range 400 {
		l, workers := randomTree(r, 1+r.Intn(maxJobs)), 1+r.Intn(maxWorkers)
		p := newPool(t, l, workers)
		for range 4 {
			p, _ = impl.Play(p, randomPicks(r, r.Intn(60), workers))
			checkPool(t, p)
		}
		if p.Done[0] {
			ends++
		}
		// A worker that is not stopped runs all that it gets hold of.
		for w := range workers {
			p, _ = impl.Play(p, slices.Concat(slices.Repeat([]impl.Pick{pick(0, w)}, maxJobs), slices.Repeat([]impl.Pick{pick(0, 0)}, maxJobs)))
		}
		wantAnswer(t, p, impl.Serial(l), true)
	}
	if ends < 100 || ends > 390 {
		t.Errorf("%d of 400 had an end", ends)
	}
}

// One worker alone takes as often as there are jobs, and no more.
func TestOneWorkerAlone(t *testing.T) {
	for _, l := range append(treesUpTo(6), chain(maxJobs, 2), star(maxJobs, 2)) {
		p := newPool(t, l, 1)
		wantPlay(t, p, slices.Repeat([]impl.Pick{pick(0, 0)}, maxJobs+5), allRan(l, 1), len(l))
		early, _ := impl.Play(p, make([]impl.Pick, len(l)-1))
		wantAnswer(t, early, 0, false)
	}
}

// jobAnswer is what the functions about jobs answer.
type jobAnswer struct {
	Jobs   bool
	Serial int
	New    impl.Pool
	NewOk  bool
	PoolOk bool
	Taken  []impl.Pool
	Took   []bool
	Stolen []impl.Pool
	Stole  []bool
	Played impl.Pool
	Count  int
	Answer int
	Done   bool
}

// jobCase is what they are asked.
type jobCase struct {
	L []impl.Job
	P impl.Pool
	K []impl.Pick
}

func jobCases(t *testing.T) []jobCase {
	t.Helper()
	r := rand.New(rand.NewSource(69))
	var out []jobCase
	add := func(p impl.Pool, l []impl.Pick) {
		out = append(out, jobCase{p.L, p, l})
	}
	for _, l := range append(treesUpTo(4), chain(maxJobs, 1), star(maxJobs, maxInt)) {
		for _, n := range []int{0, 3, 10, 200} {
			p, _ := impl.Play(newPool(t, l, 1+n%maxWorkers), randomPicks(r, n, 2))
			add(p, randomPicks(r, 30, maxWorkers))
		}
	}
	add(midway(), nil)
	add(midway(), make([]impl.Pick, maxPicks+1))
	add(allRan(fourJobs(), 3), allPicks(3))
	for _, p := range badPools() {
		add(p, allPicks(2))
	}
	for _, l := range badJobs() {
		out = append(out, jobCase{l, midway(), allPicks(2)})
	}
	return out
}

func jobAnswers(c jobCase) jobAnswer {
	a := jobAnswer{Jobs: impl.JobsOk(c.L), Serial: impl.Serial(c.L), PoolOk: impl.PoolOk(c.P)}
	a.New, a.NewOk = impl.PoolNew(c.L, 2)
	for w := -1; w <= 2; w++ {
		p, ok := impl.Take(c.P, w)
		a.Taken, a.Took = append(a.Taken, p), append(a.Took, ok)
		for v := range 3 {
			p, ok := impl.Steal(c.P, w, v)
			a.Stolen, a.Stole = append(a.Stolen, p), append(a.Stole, ok)
		}
	}
	a.Played, a.Count = impl.Play(c.P, c.K)
	a.Answer, a.Done = impl.Answer(c.P)
	return a
}

func TestJobsAgain(t *testing.T) {
	wantSameAgain(t, jobCases(t), jobAnswers)
}

func TestJobsAtOnce(t *testing.T) {
	wantSameAtOnce(t, jobCases(t), jobAnswers)
}

// spoiltPool is a pool with other values in all its lists, and behind them.
func spoiltPool(p impl.Pool) {
	for _, j := range p.L {
		spoilt(j.Kids, 99)
	}
	for _, row := range p.Dq {
		spoilt(row.L, 99)
	}
	spoilt(p.L, impl.Job{Val: 99})
	spoilt(p.Dq, impl.Row{})
	spoilt(p.Ran, true)
	spoilt(p.Done, true)
	spoilt(p.Left, 99)
	spoilt(p.Sum, 99)
	spoilt(p.Val, 99)
}

func wantJobsNewMemory(t *testing.T, c jobCase) {
	t.Helper()
	old := deepCopy(c)
	a, again := jobAnswers(c), jobAnswers(c)
	if sharesMemory(a, again, c) {
		t.Fatalf("%+v: %+v shares memory", c, a)
	}
	for _, p := range slices.Concat(a.Taken, a.Stolen, []impl.Pool{a.New, a.Played}) {
		spoiltPool(p)
	}
	if !wholeSame(c, old) {
		t.Fatalf("%+v was changed to %+v", old, c)
	}
	if after := jobAnswers(c); !sameValue(after, again) {
		t.Fatalf("%+v: %+v and then %+v", c, again, after)
	}
}

func TestJobsAreNewMemory(t *testing.T) {
	for _, c := range jobCases(t) {
		wantJobsNewMemory(t, deepCopy(c))
		wantJobsNewMemory(t, withRoom(c))
	}
}
