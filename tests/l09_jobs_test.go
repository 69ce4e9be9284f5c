package tests

import (
	"math/big"
	"math/rand"
	"slices"
	"testing"

	"loop.example/g00713/impl"
)

func TestJobConstants(t *testing.T) {
	if impl.MaxJobs != maxJobs || impl.MaxWorkers != maxWorkers || impl.MaxPicks != maxPicks {
		t.Error(impl.MaxJobs, impl.MaxWorkers, impl.MaxPicks)
	}
}

func wantJobs(t *testing.T, want bool, l []impl.Job) {
	t.Helper()
	if got := impl.JobsOk(l); got != want {
		t.Errorf("whether %v are jobs is %v", l, got)
	}
}

func TestJobsOkOrdinary(t *testing.T) {
	wantJobs(t, true, []impl.Job{{}})
	wantJobs(t, true, []impl.Job{{Val: minInt, Kids: []int{}}})
	wantJobs(t, true, fourJobs())
	// Kids in any order, and numbers that lie between those of other kids.
	wantJobs(t, true, []impl.Job{job(1, 3, 1), job(2, 4, 2), job(3), job(4, 5), job(5), job(maxInt)})
	wantJobs(t, true, []impl.Job{job(0, 1), job(0, 3, 2), job(0), job(0)})
}

func TestJobsOkLimits(t *testing.T) {
	wantJobs(t, false, nil)
	wantJobs(t, false, []impl.Job{})
	for n := 1; n <= maxJobs+3; n++ {
		wantJobs(t, n <= maxJobs, chain(n, n))
		wantJobs(t, n <= maxJobs, star(n, n))
	}
}

func TestJobsOkRefused(t *testing.T) {
	for _, l := range badJobs() {
		wantJobs(t, false, l)
	}
	long := star(maxJobs, 1)
	long[0].Kids = slices.Repeat(long[0].Kids, 1000)
	wantJobs(t, false, long)
}

// kidRows are all rows of at most two kids from -1 to n.
func kidRows(n int) [][]int {
	rows := [][]int{nil}
	for a := -1; a <= n; a++ {
		rows = append(rows, []int{a})
		for b := -1; b <= n; b++ {
			rows = append(rows, []int{a, b})
		}
	}
	return rows
}

// eachJobs goes through all lists of n jobs with such kids.
func eachJobs(n int, l []impl.Job, f func(l []impl.Job)) {
	if len(l) == n {
		f(l)
		return
	}
	for _, kids := range kidRows(n) {
		eachJobs(n, append(l, job(len(l)+1, kids...)), f)
	}
}

func TestJobsOkAgainstTheRule(t *testing.T) {
	for n, trees := range []int{0, 1, 1, 3} {
		found := 0
		eachJobs(n, nil, func(l []impl.Job) {
			want := jobsByRule(l)
			wantJobs(t, want, l)
			if want {
				found++
			}
		})
		if found != trees {
			t.Errorf("%d trees of %d jobs, want %d", found, n, trees)
		}
	}
}

// Trees with another kid, with one more, and with one that has got another
// parent.
func TestJobsOkOneChange(t *testing.T) {
	r := rand.New(rand.NewSource(9))
	yes, no := 0, 0
	for range 3000 {
		l := randomTree(r, 1+r.Intn(maxJobs))
		wantJobs(t, true, l)
		kids := &l[r.Intn(len(l))].Kids
		kid := r.Intn(len(l)+2) - 1
		switch at := r.Intn(len(*kids) + 1); {
		case at == len(*kids):
			*kids = append(*kids, kid)
		case r.Intn(2) > 0:
			(*kids)[at] = kid
		default:
			kid = (*kids)[at]
			*kids = slices.Delete(*kids, at, at+1)
			other := &l[r.Intn(len(l))].Kids
			*other = append(*other, kid)
		}
		want := jobsByRule(l)
		wantJobs(t, want, l)
		if want {
			yes++
		} else {
			no++
		}
	}
	if yes < 50 || no < 1000 {
		t.Errorf("%d lists of jobs, and %d that are none", yes, no)
	}
}

func wantSerial(t *testing.T, want int, l []impl.Job) {
	t.Helper()
	if got := impl.Serial(l); got != want {
		t.Errorf("the value of %v is %d, want %d", l, got, want)
	}
}

func TestSerialWrittenOut(t *testing.T) {
	for _, val := range append([]int{0, 1, 5}, farInts...) {
		wantSerial(t, val, []impl.Job{job(val)})
	}
	wantSerial(t, 25, fourJobs())
	wantSerial(t, 1+2*10, []impl.Job{job(1, 1), job(10)})
	wantSerial(t, 100+2*(20+3), []impl.Job{job(100, 2, 1), job(20), job(3)})
	wantSerial(t, 100+2*(20+2*3), []impl.Job{job(100, 1), job(20, 2), job(3)})
	wantSerial(t, 100-2*(20-2*3), []impl.Job{job(100, 1), job(-20, 2), job(3)})
	wantSerial(t, 1<<maxJobs-1, chain(maxJobs, 1))
	wantSerial(t, 1+2*(maxJobs-1), star(maxJobs, 1))
	wantSerial(t, 0, chain(maxJobs, 0))
}

func TestSerialWraps(t *testing.T) {
	wantSerial(t, maxInt-2, []impl.Job{job(maxInt, 1), job(maxInt)})
	wantSerial(t, minInt, []impl.Job{job(minInt, 1), job(minInt)})
	wantSerial(t, -2, []impl.Job{job(0, 1), job(maxInt)})
	wantSerial(t, 0, []impl.Job{job(0, 1), job(minInt)})
	wantSerial(t, -3, []impl.Job{job(1, 1, 2), job(maxInt), job(maxInt)})
	wantSerial(t, 1, []impl.Job{job(1, 1, 2), job(minInt), job(minInt)})
	wantSerial(t, minInt, []impl.Job{job(0, 1), job(1 << 62)})
}

// wrapped is the number that a whole number of any size wraps to.
func wrapped(n *big.Int) int {
	all := new(big.Int).Lsh(big.NewInt(1), 64)
	return int(new(big.Int).Mod(n, all).Uint64())
}

// weighed is the value of number 0 in another way: each job counts twice as
// often as its parent.
func weighed(l []impl.Job) int {
	all, weight := new(big.Int), big.NewInt(1)
	weights := []*big.Int{weight}
	for k, j := range l {
		if k > 0 {
			weights = append(weights, new(big.Int).Lsh(weights[parentsByRule(l, k)[0]], 1))
		}
		all.Add(all, new(big.Int).Mul(weights[k], big.NewInt(int64(j.Val))))
	}
	return wrapped(all)
}

func TestSerialAgainstTheRule(t *testing.T) {
	r := rand.New(rand.NewSource(19))
	trees := treesUpTo(6)
	for range 2000 {
		trees = append(trees, randomTree(r, 1+r.Intn(maxJobs)))
	}
	for _, l := range trees {
		wantSerial(t, weighed(l), l)
	}
}

func TestSerialRefused(t *testing.T) {
	for _, l := range badJobs() {
		wantSerial(t, 0, l)
	}
}
