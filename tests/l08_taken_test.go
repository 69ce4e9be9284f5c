package tests

import (
	"math"
	"math/rand"
	"slices"
	"testing"

	"loop.example/g00713/impl"
)

const (
	maxInt = math.MaxInt
	minInt = math.MinInt
)

func wantTaken(t *testing.T, o impl.Outcome, often bool, want ...int) {
	t.Helper()
	if got := impl.Taken(o); !sameValue(got, want) {
		t.Errorf("of %v is taken %v, want %v", o, got, want)
	}
	if got := impl.TakenOften(o); got != often {
		t.Errorf("whether of %v something is taken often is %v", o, got)
	}
}

func TestTakenWrittenOut(t *testing.T) {
	wantTaken(t, impl.Outcome{}, false)
	wantTaken(t, outcome(), false)
	wantTaken(t, outcome(make([]int, 18)...), false)
	wantTaken(t, outcome(11, 0, 0, 0, 0, 0), false, 11)
	wantTaken(t, outcome(0, 11, 0, 0, 0, 0), false, 11)
	wantTaken(t, outcome(12, 11, 0, 0, 0, 0), false, 11, 12)
	wantTaken(t, outcome(0, 0, 0, 0, 0, 0, 14, 13, 0, 0, 0, 0, 12, 11, 0, 0, 0, 0), false, 11, 12, 13, 14)
	// Often in one thread, and in two.
	wantTaken(t, outcome(11, 11, 0, 0, 0, 0), true, 11)
	wantTaken(t, outcome(11, 0, 0, 0, 0, 0, 11, 0, 0, 0, 0, 0), true, 11)
	wantTaken(t, outcome(0, 11, 0, 0, 0, 0, 11, 0, 0, 0, 0, 0), true, 11)
	wantTaken(t, outcome(0, 11, 0, 0, 0, 0, 0, 11, 0, 0, 0, 0), true, 11)
	wantTaken(t, outcome(11, 0, 0, 0, 0, 0, 12, 0, 0, 0, 0, 0, 0, 11, 0, 0, 0, 0), true, 11, 12)
	wantTaken(t, outcome(13, 12, 0, 0, 0, 0, 12, 13, 0, 0, 0, 0, 13, 12, 0, 0, 0, 0), true, 12, 13)
	wantTaken(t, outcome(11, 12, 0, 0, 0, 0, 13, 0, 0, 0, 0, 0, 14, 0, 0, 0, 0, 0), false, 11, 12, 13, 14)
	// Numbers below 0, and those that are as far off as can be.
	wantTaken(t, outcome(-1, 1, 0, 0, 0, 0, -2, 0, 0, 0, 0, 0), false, -2, -1, 1)
	wantTaken(t, outcome(-3, -3), true, -3)
	wantTaken(t, outcome(maxInt, minInt, 0, 0, 0, 0, maxInt-1, minInt+1), false, minInt, minInt+1, maxInt-1, maxInt)
	wantTaken(t, outcome(maxInt, 0, 0, 0, 0, 0, maxInt, minInt), true, minInt, maxInt)
	wantTaken(t, outcome(minInt, 0, 0, 0, 0, 0, 0, minInt), true, minInt)
	wantTaken(t, outcome(maxInt, maxInt), true, maxInt)
}

func TestTakenOtherRegisters(t *testing.T) {
	for r := range impl.Regs {
		for k := range impl.MaxThreads {
			o := outcome(make([]int, impl.MaxThreads*impl.Regs)...)
			o.R[k*impl.Regs+r] = 7
			if r < 2 {
				wantTaken(t, o, false, 7)
			} else {
				wantTaken(t, o, false)
			}
			// Beside the same number, which counts.
			o.R[(k+1)%impl.MaxThreads*impl.Regs+1-r%2] = 7
			wantTaken(t, o, r < 2, 7)
		}
	}
	wantTaken(t, outcome(11, 12, 13, 13, 13, 13, 14, 0, 11, 12, 13, 14), false, 11, 12, 14)
	wantTaken(t, outcome(0, 0, 11, 11, 11, 11), false)
}

// A row may end in the middle of a thread, of which what is there counts.
func TestTakenShortRows(t *testing.T) {
	full := []int{11, 12, 1, 2, 3, 4, 13, 11, 5, 6, 7, 8, 12, 14, 9}
	wants := map[int][]int{0: nil, 1: {11}, 2: {11, 12}, 7: {11, 12, 13}, 14: {11, 12, 13, 14}}
	var want []int
	for n := range len(full) + 1 {
		if l, ok := wants[n]; ok {
			want = l
		}
		wantTaken(t, outcome(full[:n]...), n >= 8, want...)
	}
	wantTaken(t, outcome(5), false, 5)
	wantTaken(t, outcome(0), false)
	wantTaken(t, outcome(5, 5), true, 5)
	wantTaken(t, outcome(5, 0, 5), false, 5)
	wantTaken(t, outcome(5, 0, 0, 0, 0, 0, 5), true, 5)
}

// takenByRule holds each number against each other one.
func takenByRule(o impl.Outcome) ([]int, bool) {
	var out []int
	often := false
	for k, a := range o.R {
		if k%6 > 1 || a == 0 {
			continue
		}
		if slices.Contains(out, a) {
			often = true
			continue
		}
		at := 0
		for at < len(out) && out[at] < a {
			at++
		}
		out = slices.Insert(out, at, a)
	}
	return out, often
}

// randomOutcome may end in the middle of a thread.
func randomOutcome(r *rand.Rand) impl.Outcome {
	numbers := []int{0, 0, 0, 11, 12, 13, 14, -1, -11, maxInt, maxInt - 1, minInt, minInt + 1}
	o := outcome()
	for range r.Intn(45) {
		o.R = append(o.R, numbers[r.Intn(len(numbers))])
	}
	return o
}

func TestTakenAgainstTheRule(t *testing.T) {
	r := rand.New(rand.NewSource(8))
	yes, no := 0, 0
	for range 20000 {
		o := randomOutcome(r)
		want, often := takenByRule(o)
		wantTaken(t, o, often, want...)
		if often {
			yes++
		} else {
			no++
		}
	}
	if yes < 2000 || no < 2000 {
		t.Errorf("%d with something taken often, %d without", yes, no)
	}
}
