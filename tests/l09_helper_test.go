package tests

import (
	"math/rand"
	"slices"
	"testing"

	"loop.example/g00713/impl"
)

// The limits of the document.
const (
	maxJobs    = 30
	maxWorkers = 4
	maxPicks   = 2000
)

func job(val int, kids ...int) impl.Job {
	return impl.Job{Val: val, Kids: kids}
}

func pick(w int, v int) impl.Pick {
	return impl.Pick{W: w, V: v}
}

// rowsOfJobs are the rows of workers.
func rowsOfJobs(l ...[]int) []impl.Row {
	var out []impl.Row
	for _, row := range l {
		out = append(out, impl.Row{L: row})
	}
	return out
}

// fourJobs are a tree of which number 0 has two kids, and the first of them one.
func fourJobs() []impl.Job {
	return []impl.Job{job(1, 1, 3), job(2, 2), job(3), job(4)}
}

// chain is a row of jobs, each the kid of the one ahead.
func chain(n int, val int) []impl.Job {
	var l []impl.Job
	for k := range n - 1 {
		l = append(l, job(val, k+1))
	}
	return append(l, job(val))
}

// star has all other jobs as kids of number 0.
func star(n int, val int) []impl.Job {
	l := []impl.Job{job(val)}
	for k := 1; k < n; k++ {
		l[0].Kids = append(l[0].Kids, k)
		l = append(l, job(val))
	}
	return l
}

// treeOf has, for each job but number 0, its parent.
func treeOf(parents []int) []impl.Job {
	l := make([]impl.Job, len(parents)+1)
	for k, parent := range parents {
		l[k].Val = 10*k + 1
		l[parent].Kids = append(l[parent].Kids, k+1)
	}
	l[len(parents)].Val = -7
	return l
}

// treesOf are all trees of n jobs; the kids of every other one are turned round.
func treesOf(n int) [][]impl.Job {
	rows := [][]int{nil}
	for k := 1; k < n; k++ {
		var longer [][]int
		for _, row := range rows {
			for parent := range k {
				longer = append(longer, append(slices.Clone(row), parent))
			}
		}
		rows = longer
	}
	var out [][]impl.Job
	for k, parents := range rows {
		l := treeOf(parents)
		for _, j := range l {
			if k%2 > 0 {
				slices.Reverse(j.Kids)
			}
		}
		out = append(out, l)
	}
	return out
}

// treesUpTo are all trees of 1 to n jobs.
func treesUpTo(n int) [][]impl.Job {
	var out [][]impl.Job
	for k := 1; k <= n; k++ {
		out = append(out, treesOf(k)...)
	}
	return out
}

// randomTree has n jobs, of any values, and kids in any order.
func randomTree(r *rand.Rand, n int) []impl.Job {
	l := make([]impl.Job, n)
	for k := range l {
		l[k].Val = r.Intn(9) - 4
		if r.Intn(5) == 0 {
			l[k].Val = farInts[r.Intn(len(farInts))]
		}
		if k > 0 {
			kids := &l[r.Intn(k)].Kids
			*kids = slices.Insert(*kids, r.Intn(len(*kids)+1), k)
		}
	}
	return l
}

// badJobs are no trees of jobs.
func badJobs() [][]impl.Job {
	out := [][]impl.Job{
		nil, {},
		chain(maxJobs+1, 1), star(maxJobs+1, 1), make([]impl.Job, 100),
		{job(1), job(2)},                    // nobody's kid
		{job(1, 1), job(2), job(3)},         // the last one nobody's
		{job(1, 1, 2), job(2, 2), job(3)},   // the kid of two
		{job(1), job(2, 2), job(3)},         // not below number 0
		{job(1, 1, 1), job(2)},              // twice the kid of one
		{job(1, 1, 2, 1), job(2), job(3)},   // twice, and not side by side
		{job(1, 0)},                         // its own kid
		{job(1, 1), job(2, 1)},              // its own kid and another's
		{job(1), job(2, 1)},                 // its own kid alone
		{job(1, 2), job(2), job(3, 1)},      // the kid of one whose number is greater
		{job(1, 1), job(2), job(3, 2)},      // not held by number 0
		{job(1, 1), job(2, 0)},              // number 0 a kid
		{job(1, 2, 1), job(2), job(3, 0)},   // number 0 a kid of the last one
		{job(1, 1)}, {job(1, 1, 2), job(2)}, // no job
		{job(1, 1, 2, 3), job(2), job(3)},          // no job behind others
		{job(1, 1, 2), job(2), job(3, 3)},          // no job, of the last one
		{job(1, 2), job(2)}, {job(1), job(2, 100)}, // no job, and one that is nobody's
	}
	for _, far := range farInts {
		out = append(out, []impl.Job{job(1, far)}, []impl.Job{job(1, 1, far), job(2)}, []impl.Job{job(1, far, 1), job(2)}, []impl.Job{job(1, 1), job(2, far)})
	}
	return out
}

// parentsByRule are the jobs whose kid a job is, each as often as it is.
func parentsByRule(l []impl.Job, kid int) []int {
	var parents []int
	for parent, j := range l {
		for _, k := range j.Kids {
			if k == kid {
				parents = append(parents, parent)
			}
		}
	}
	return parents
}

func jobsByRule(l []impl.Job) bool {
	if len(l) < 1 || len(l) > maxJobs {
		return false
	}
	for _, j := range l {
		for _, kid := range j.Kids {
			if kid < 0 || kid >= len(l) {
				return false
			}
		}
	}
	for k := range l {
		parents := parentsByRule(l, k)
		if k == 0 && len(parents) > 0 || k > 0 && (len(parents) != 1 || parents[0] >= k) {
			return false
		}
	}
	return true
}

func valueByRule(l []impl.Job, k int) int {
	val := l[k].Val
	for _, kid := range l[k].Kids {
		val += 2 * valueByRule(l, kid)
	}
	return val
}

// doneByRule tells whether a job and all that come of it have Ran.
func doneByRule(l []impl.Job, ran []bool, k int) bool {
	for _, kid := range l[k].Kids {
		if !doneByRule(l, ran, kid) {
			return false
		}
	}
	return ran[k]
}

// poolOf is the pool in which those jobs have Ran, with these rows.
func poolOf(l []impl.Job, ran []bool, rows ...[]int) impl.Pool {
	n := len(l)
	p := impl.Pool{L: l, Dq: rowsOfJobs(rows...), Ran: ran, Done: make([]bool, n), Left: make([]int, n), Sum: make([]int, n), Val: make([]int, n)}
	for k, j := range l {
		if p.Done[k] = doneByRule(l, ran, k); p.Done[k] {
			p.Val[k] = valueByRule(l, k)
		}
		for _, kid := range j.Kids {
			if doneByRule(l, ran, kid) {
				p.Sum[k] += valueByRule(l, kid)
			} else if ran[k] {
				p.Left[k]++
			}
		}
	}
	return deepCopy(p)
}

func ranOf(n int, jobs ...int) []bool {
	ran := make([]bool, n)
	for _, k := range jobs {
		ran[k] = true
	}
	return ran
}

// allRan is where all has been done.
func allRan(l []impl.Job, workers int) impl.Pool {
	ran := slices.Repeat([]bool{true}, len(l))
	return poolOf(l, ran, make([][]int, workers)...)
}

func timesInRows(p impl.Pool, k int) int {
	times := 0
	for _, row := range p.Dq {
		for _, standing := range row.L {
			if standing == k {
				times++
			}
		}
	}
	return times
}

func poolByRule(p impl.Pool) bool {
	n := len(p.L)
	if !jobsByRule(p.L) || len(p.Dq) < 1 || len(p.Dq) > maxWorkers {
		return false
	}
	if len(p.Ran) != n || len(p.Done) != n || len(p.Left) != n || len(p.Sum) != n || len(p.Val) != n {
		return false
	}
	standing := 0
	for k := range p.L {
		open := k == 0 || p.Ran[parentsByRule(p.L, k)[0]]
		times := timesInRows(p, k)
		if p.Ran[k] && !open || times > 1 || (times == 1) != (open && !p.Ran[k]) {
			return false
		}
		standing += times
	}
	for _, row := range p.Dq {
		// What is left is no job.
		standing -= len(row.L)
	}
	want := poolOf(p.L, p.Ran)
	want.Dq = p.Dq
	return standing == 0 && sameValue(p, want)
}

func newPool(t *testing.T, l []impl.Job, workers int) impl.Pool {
	t.Helper()
	p, ok := impl.PoolNew(l, workers)
	if !ok {
		t.Fatalf("no pool of %v with %d workers", l, workers)
	}
	return p
}

// poolWith is a copy of a pool with a change.
func poolWith(p impl.Pool, change func(p *impl.Pool)) impl.Pool {
	p = deepCopy(p)
	change(&p)
	return p
}

// takenBy is the pool behind Take of w, by what the document says; nothing, if
// it refuses.
func takenBy(p impl.Pool, w int) (impl.Pool, bool) {
	if w < 0 || w >= len(p.Dq) || len(p.Dq[w].L) == 0 {
		return impl.Pool{}, false
	}
	q := deepCopy(p)
	row := q.Dq[w].L
	last := row[len(row)-1]
	q.Ran[last] = true
	q.Dq[w].L = slices.Concat(row[:len(row)-1], q.L[last].Kids)
	out := poolOf(q.L, q.Ran)
	out.Dq = q.Dq
	return out, true
}

// stolenBy is the pool behind Steal of w from v.
func stolenBy(p impl.Pool, w int, v int) (impl.Pool, bool) {
	n := len(p.Dq)
	if w < 0 || w >= n || v < 0 || v >= n || w == v || len(p.Dq[v].L) == 0 {
		return impl.Pool{}, false
	}
	q := deepCopy(p)
	q.Dq[w].L = slices.Concat(q.Dq[w].L, q.Dq[v].L[:1])
	q.Dq[v].L = q.Dq[v].L[1:]
	return q, true
}

func pickedBy(p impl.Pool, k impl.Pick) (impl.Pool, bool) {
	if k.W == k.V {
		return takenBy(p, k.W)
	}
	return stolenBy(p, k.W, k.V)
}

// strangeWorkers are none of any pool.
var strangeWorkers = append([]int{-2, maxWorkers, maxWorkers + 1}, farInts...)

// allPicks are those of so many workers.
func allPicks(workers int) []impl.Pick {
	var out []impl.Pick
	for w := range workers {
		for v := range workers {
			out = append(out, pick(w, v))
		}
	}
	return out
}

// midway is a pool of fourJobs in which 0 and 3 have Ran, and 1 has been stolen.
func midway() impl.Pool {
	return impl.Pool{
		L:    fourJobs(),
		Dq:   rowsOfJobs(nil, []int{1}),
		Ran:  []bool{true, false, false, true},
		Done: []bool{false, false, false, true},
		Left: []int{1, 0, 0, 0},
		Sum:  []int{4, 0, 0, 0},
		Val:  []int{0, 0, 0, 4},
	}
}

// badPools are no pools; the functions that take one refuse them.
func badPools() []impl.Pool {
	out := []impl.Pool{{}, {L: []impl.Job{job(1)}}}
	for _, change := range []func(p *impl.Pool){
		func(p *impl.Pool) { p.L[0].Kids = []int{1} },
		func(p *impl.Pool) { p.L[3].Kids = []int{3} },
		func(p *impl.Pool) { p.L[3].Val++ },
		func(p *impl.Pool) { p.L = p.L[:3] },
		func(p *impl.Pool) { p.L = nil },
		func(p *impl.Pool) { p.Dq = nil },
		func(p *impl.Pool) { p.Dq = append(p.Dq, make([]impl.Row, 3)...) },
		func(p *impl.Pool) { p.Dq[0].L = []int{3} },
		func(p *impl.Pool) { p.Dq[0].L = []int{1} },
		func(p *impl.Pool) { p.Dq[0].L = []int{maxInt} },
		func(p *impl.Pool) { p.Dq[0].L = []int{minInt} },
		func(p *impl.Pool) { p.Dq[1].L = nil },
		func(p *impl.Pool) { p.Dq[1].L = []int{2, 1} },
		func(p *impl.Pool) { p.Ran[2] = true },
		func(p *impl.Pool) { p.Ran = p.Ran[:3] },
		func(p *impl.Pool) { p.Done[0] = true },
		func(p *impl.Pool) { p.Done = append(p.Done, false) },
		func(p *impl.Pool) { p.Left[0]++ },
		func(p *impl.Pool) { p.Left = nil },
		func(p *impl.Pool) { p.Sum[0] = maxInt },
		func(p *impl.Pool) { p.Sum = p.Sum[:3] },
		func(p *impl.Pool) { p.Val[1] = minInt },
		func(p *impl.Pool) { p.Val = append(p.Val, 0) },
	} {
		out = append(out, poolWith(midway(), change))
	}
	return out
}
