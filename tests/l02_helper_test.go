package tests

import (
	"reflect"
	"sync"
	"testing"

	"loop.example/g00713/impl"
)

var kinds = []int{impl.KdOne, impl.KdBuf, impl.KdView}

// strangeKinds are kinds that are none of the three.
var strangeKinds = append([]int{3, 4}, farInts...)

// badProgs are programs that are not ProgOk.
func badProgs() []impl.Prog {
	jump := impl.Ins{Op: impl.InJump, N: 2}
	return []impl.Prog{
		{}, {Init: []int{1}}, {T: []impl.Thread{{}}},
		{Init: make([]int, impl.MaxCells+1), T: []impl.Thread{{}}},
		{Init: []int{1}, T: make([]impl.Thread, impl.MaxThreads+1)},
		{Init: []int{1}, T: []impl.Thread{fences(impl.MaxIns + 1)}},
		{Init: []int{1}, T: []impl.Thread{{L: []impl.Ins{{}}}}},
		{Init: []int{1}, T: []impl.Thread{{}, {L: []impl.Ins{jump}}}},
	}
}

// goodProgs are programs with 1 to MaxCells cells and 1 to MaxThreads threads,
// besides the sample.
func goodProgs() []impl.Prog {
	out := []impl.Prog{sample()}
	for cells := 1; cells <= impl.MaxCells; cells++ {
		for threads := 1; threads <= impl.MaxThreads; threads++ {
			p := impl.Prog{}
			for x := range cells {
				p.Init = append(p.Init, farInts[(x+threads)%len(farInts)]+x)
			}
			for k := range threads {
				p.T = append(p.T, fences((cells+k)%4*impl.MaxIns/3))
			}
			out = append(out, p)
		}
	}
	return out
}

func started(t *testing.T, p impl.Prog, kind int) impl.State {
	t.Helper()
	s, ok := impl.Start(p, kind)
	if !ok {
		t.Fatalf("no start of kind %d for %+v", kind, p)
	}
	return s
}

// sameValue holds two values against each other, an empty list being as nil.
func sameValue(a any, b any) bool {
	return sameParts(reflect.ValueOf(a), reflect.ValueOf(b), false)
}

// wholeSame holds a value against a copy of before, with the room behind lists.
func wholeSame(a any, b any) bool {
	return sameParts(reflect.ValueOf(a), reflect.ValueOf(b), true)
}

func sameParts(a reflect.Value, b reflect.Value, room bool) bool {
	switch a.Kind() {
	case reflect.Slice:
		if a.Len() != b.Len() || room && a.Cap() != b.Cap() {
			return false
		}
		if room {
			a, b = a.Slice(0, a.Cap()), b.Slice(0, b.Cap())
		}
		for k := range a.Len() {
			if !sameParts(a.Index(k), b.Index(k), room) {
				return false
			}
		}
		return true
	case reflect.Struct:
		for k := range a.NumField() {
			if !sameParts(a.Field(k), b.Field(k), room) {
				return false
			}
		}
		return true
	default:
		return a.Equal(b)
	}
}

// deepCopy copies a value with all its lists and the room behind each.
func deepCopy[V any](v V) V {
	out := reflect.New(reflect.TypeOf(v)).Elem()
	copyInto(out, reflect.ValueOf(v))
	return out.Interface().(V)
}

func copyInto(to reflect.Value, from reflect.Value) {
	switch from.Kind() {
	case reflect.Slice:
		if from.IsNil() {
			return
		}
		to.Set(reflect.MakeSlice(from.Type(), from.Cap(), from.Cap()))
		whole := from.Slice(0, from.Cap())
		for k := range whole.Len() {
			copyInto(to.Index(k), whole.Index(k))
		}
		to.Set(to.Slice(0, from.Len()))
	case reflect.Struct:
		for k := range from.NumField() {
			copyInto(to.Field(k), from.Field(k))
		}
	default:
		to.Set(from)
	}
}

// withRoom gives each list of a value some room behind it that is not zero.
func withRoom[V any](v V) V {
	out := deepCopy(v)
	addRoom(reflect.ValueOf(&out).Elem())
	return out
}

func addRoom(v reflect.Value) {
	switch v.Kind() {
	case reflect.Slice:
		n := v.Len()
		wide := reflect.MakeSlice(v.Type(), n+2, n+2)
		reflect.Copy(wide, v)
		for k := range n {
			addRoom(wide.Index(k))
		}
		for k := n; k < n+2; k++ {
			fill(wide.Index(k))
		}
		v.Set(wide.Slice(0, n))
	case reflect.Struct:
		for k := range v.NumField() {
			addRoom(v.Field(k))
		}
	}
}

func fill(v reflect.Value) {
	switch v.Kind() {
	case reflect.Int:
		v.SetInt(77)
	case reflect.Bool:
		v.SetBool(true)
	case reflect.Slice:
		v.Set(reflect.MakeSlice(v.Type(), 1, 1))
		fill(v.Index(0))
	case reflect.Struct:
		for k := range v.NumField() {
			fill(v.Field(k))
		}
	}
}

// span is the memory of a list, with the room behind it.
type span struct {
	from uintptr
	to   uintptr
}

func spans(v reflect.Value) []span {
	var out []span
	switch v.Kind() {
	case reflect.Slice:
		if v.Cap() > 0 {
			out = append(out, span{v.Pointer(), v.Pointer() + uintptr(v.Cap())*v.Type().Elem().Size()})
		}
		for k := range v.Len() {
			out = append(out, spans(v.Index(k))...)
		}
	case reflect.Struct:
		for k := range v.NumField() {
			out = append(out, spans(v.Field(k))...)
		}
	}
	return out
}

// sharesMemory tells whether two lists of an answer share memory, or one of it
// and one of the arguments.
func sharesMemory(answer any, args ...any) bool {
	own := spans(reflect.ValueOf(answer))
	others := own
	for _, arg := range args {
		others = append(others[:len(others):len(others)], spans(reflect.ValueOf(arg))...)
	}
	for k, a := range own {
		for _, b := range others[k+1:] {
			if a.from < b.to && b.from < a.to {
				return true
			}
		}
	}
	return false
}

// wantSameAgain holds what is answered again against what was answered first.
func wantSameAgain[C any, A any](t *testing.T, cases []C, answers func(c C) A) {
	t.Helper()
	for _, c := range cases {
		first := answers(c)
		for range 3 {
			if again := answers(c); !sameValue(again, first) {
				t.Fatalf("%+v: %+v and then %+v", c, first, again)
			}
		}
	}
}

// wantSameAtOnce is for several calls at once, which answer as they do one after
// another, with the same arguments, too.
func wantSameAtOnce[C any, A any](t *testing.T, cases []C, answers func(c C) A) {
	t.Helper()
	var want []A
	for _, c := range cases {
		want = append(want, answers(c))
	}
	var wg sync.WaitGroup
	for from := range 8 {
		wg.Add(1)
		go func() {
			defer wg.Done()
			for k := range cases {
				n := (from/2 + k) % len(cases)
				if got := answers(cases[n]); !sameValue(got, want[n]) {
					t.Errorf("%+v answers %+v, and alone %+v", cases[n], got, want[n])
				}
			}
		}()
	}
	wg.Wait()
}

func TestHelperSharesMemory(t *testing.T) {
	l := make([]int, 4)
	if !sharesMemory(impl.File{R: l[:1]}, l[2:]) || !sharesMemory([][]int{l, l[3:]}) || sharesMemory(impl.File{R: l}, make([]int, 4)) {
		t.Error("shared memory is not told")
	}
}

func TestHelperDeepCopy(t *testing.T) {
	p := withRoom(sample())
	q := deepCopy(p)
	if !wholeSame(p, q) || sharesMemory(p, q) || p.Init[:cap(p.Init)][len(p.Init)] != 77 {
		t.Error("a copy is not as it should be")
	}
	q.Init[:cap(q.Init)][len(q.Init)]++
	if !sameValue(p, q) || wholeSame(p, q) || !wholeSame(p, deepCopy(p)) || sameValue(p, impl.Prog{Init: p.Init}) {
		t.Error("a difference is not told")
	}
}
