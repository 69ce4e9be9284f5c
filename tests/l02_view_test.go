package tests

import (
	"math"
	"math/rand"
	"slices"
	"testing"

	"loop.example/g00713/impl"
)

// maxNext is the most that the document lets Next of a state of KdView be.
const maxNext = 1000

func viewProg() impl.Prog {
	return impl.Prog{Init: []int{7, 8, 9}, T: []impl.Thread{fences(1), {}}}
}

// written is a state of KdView in which cells 0 and 2 have been written, cell
// 2 by an InCas, too; Id 6 is not used.
func written() impl.State {
	return impl.State{
		Kind: impl.KdView, Pc: []int{1, 0}, F: []impl.File{{R: make([]int, impl.Regs)}, {R: make([]int, impl.Regs)}},
		H: []impl.Hist{
			{L: []impl.Post{{Id: 0, Val: 7, View: []int{0, 1, 2}}, {Id: 3, Val: 5, View: []int{3, 1, 2}}}},
			{L: []impl.Post{{Id: 1, Val: 8, View: []int{0, 1, 2}}}},
			{L: []impl.Post{{Id: 5, Val: 1, View: []int{3, 1, 5}}, {Id: 2, Val: 9, View: []int{0, 1, 2}}, {Id: 4, Val: -1, Glue: true, View: []int{0, 1, 4}}}},
		},
		View: []impl.File{{R: []int{3, 1, 4}}, {R: []int{0, 1, 5}}},
		Sc:   []int{3, 1, 2},
		Next: 7,
	}
}

func wantView(t *testing.T, want bool, change func(s *impl.State)) {
	t.Helper()
	s := written()
	change(&s)
	if impl.StateOk(viewProg(), s) != want {
		t.Errorf("StateOk is not %v: %+v", want, s)
	}
}

func TestViewsOrdinary(t *testing.T) {
	wantView(t, true, func(s *impl.State) {})
	wantView(t, true, func(s *impl.State) { s.H[2].L[1].Glue = true })
	wantView(t, true, func(s *impl.State) { s.H[1].L[0].Val = math.MinInt })
	s := written()
	if impl.Done(viewProg(), s) != true {
		t.Error("not done")
	}
	s.Pc[0] = 0
	if impl.Done(viewProg(), s) || !impl.StateOk(viewProg(), s) {
		t.Error("done with an instruction left")
	}
}

func TestViewsHistories(t *testing.T) {
	wantView(t, false, func(s *impl.State) { s.H = nil })
	wantView(t, false, func(s *impl.State) { s.H = s.H[:2] })
	wantView(t, false, func(s *impl.State) { s.H = append(s.H, impl.Hist{}) })
	wantView(t, false, func(s *impl.State) {
		s.H = append(s.H, impl.Hist{L: []impl.Post{{Id: 6, View: []int{0, 1, 2}}}})
	})
	for cell := range 3 {
		wantView(t, false, func(s *impl.State) { s.H[cell].L = nil })
		wantView(t, false, func(s *impl.State) { s.H[cell].L[0].Glue = true })
	}
}

func TestViewsIds(t *testing.T) {
	// All that knows a post goes along with it, so that its Id alone decides.
	rename := func(s *impl.State, from int, to int) {
		for cell := range s.H {
			for k := range s.H[cell].L {
				post := &s.H[cell].L[k]
				if post.Id == from {
					post.Id = to
				}
				if post.View[2] == from {
					post.View[2] = to
				}
			}
		}
		for k := range s.View {
			if s.View[k].R[2] == from {
				s.View[k].R[2] = to
			}
		}
	}
	for id := -2; id <= 9; id++ {
		wantView(t, id == 4 || id == 6, func(s *impl.State) { rename(s, 4, id) })
	}
	for _, id := range farInts {
		wantView(t, false, func(s *impl.State) { rename(s, 4, id) })
	}
	wantView(t, true, func(s *impl.State) { rename(s, 4, maxNext-1); s.Next = maxNext })
	wantView(t, false, func(s *impl.State) { rename(s, 4, maxNext); s.Next = maxNext })
}

func TestViewsNext(t *testing.T) {
	for next := -1; next <= maxNext+2; next++ {
		wantView(t, next >= 6 && next <= maxNext, func(s *impl.State) { s.Next = next })
	}
	for _, next := range farInts {
		wantView(t, false, func(s *impl.State) { s.Next = next })
	}
}

// viewsOf are all views of a state, and for which cell each must have which Id
// (-1: for none).
func viewsOf(s *impl.State) (views []*[]int, cells []int) {
	for cell := range s.H {
		for k := range s.H[cell].L {
			views, cells = append(views, &s.H[cell].L[k].View), append(cells, cell)
		}
	}
	for k := range s.View {
		views, cells = append(views, &s.View[k].R), append(cells, -1)
	}
	return append(views, &s.Sc), append(cells, -1)
}

func TestViewsLengths(t *testing.T) {
	wantView(t, false, func(s *impl.State) { s.View = nil })
	wantView(t, false, func(s *impl.State) { s.View = s.View[:1] })
	wantView(t, false, func(s *impl.State) { s.View = append(s.View, impl.File{R: []int{0, 1, 2}}) })
	s := written()
	views, _ := viewsOf(&s)
	for k := range views {
		at := func(s *impl.State) *[]int { all, _ := viewsOf(s); return all[k] }
		wantView(t, false, func(s *impl.State) { *at(s) = nil })
		wantView(t, false, func(s *impl.State) { *at(s) = (*at(s))[:2] })
		wantView(t, false, func(s *impl.State) { *at(s) = append(*at(s), 0) })
		wantView(t, false, func(s *impl.State) { *at(s) = append(*at(s), 2) })
	}
}

func TestViewsKnowPosts(t *testing.T) {
	posts := map[int][]int{0: {0, 3}, 1: {1}, 2: {5, 2, 4}}
	s := written()
	views, own := viewsOf(&s)
	for k := range views {
		for cell := range 3 {
			for _, id := range append([]int{-2, 0, 1, 2, 3, 4, 5, 6, 7, 8, maxNext}, farInts...) {
				keeps := own[k] != cell || id == (*views[k])[cell]
				wantView(t, slices.Contains(posts[cell], id) && keeps, func(s *impl.State) {
					all, _ := viewsOf(s)
					(*all[k])[cell] = id
				})
			}
		}
	}
}

// placesOf counts how often a post with that Id stands in a history.
func placesOf(h impl.Hist, id int) int {
	n := 0
	for _, post := range h.L {
		if post.Id == id {
			n++
		}
	}
	return n
}

// rightViews is the document's rule, post by post.
func rightViews(p impl.Prog, s impl.State) bool {
	if len(s.H) != len(p.Init) || len(s.View) != len(p.T) || s.Next > maxNext {
		return false
	}
	views, own := viewsOf(&s)
	for k := range views {
		if len(*views[k]) != len(p.Init) {
			return false
		}
		for cell, id := range *views[k] {
			if placesOf(s.H[cell], id) == 0 {
				return false
			}
		}
	}
	at := 0
	for cell, h := range s.H {
		if len(h.L) == 0 || h.L[0].Glue {
			return false
		}
		for _, post := range h.L {
			n := 0
			for _, other := range s.H {
				n += placesOf(other, post.Id)
			}
			if n != 1 || post.Id < 0 || post.Id >= s.Next || (*views[at])[own[at]] != post.Id || own[at] != cell {
				return false
			}
			at++
		}
	}
	return true
}

// oneChange changes one thing of a state that is right.
func oneChange(s *impl.State, r *rand.Rand) {
	views, _ := viewsOf(s)
	post := func() *impl.Post {
		l := s.H[r.Intn(3)].L
		return &l[r.Intn(len(l))]
	}
	switch r.Intn(6) {
	case 0:
		post().Id = r.Intn(8)
	case 1:
		post().Glue = true
	case 2:
		s.Next = r.Intn(9)
	case 3:
		cell := r.Intn(3)
		s.H[cell].L = s.H[cell].L[1:]
	default:
		(*views[r.Intn(len(views))])[r.Intn(3)] = r.Intn(7)
	}
}

func TestViewsAgainstTheRule(t *testing.T) {
	r := rand.New(rand.NewSource(1))
	found := map[bool]int{}
	for range 20000 {
		s := written()
		oneChange(&s, r)
		want := rightViews(viewProg(), s)
		found[want]++
		if impl.StateOk(viewProg(), s) != want {
			t.Fatalf("StateOk is not %v: %+v", want, s)
		}
	}
	if found[true] < 1000 || found[false] < 1000 {
		t.Fatalf("too few of one sort: %v", found)
	}
}

func TestViewsManyPosts(t *testing.T) {
	p := impl.Prog{Init: []int{4}, T: []impl.Thread{{}}}
	s := started(t, p, impl.KdView)
	for s.Next < maxNext {
		s.H[0].L = append(s.H[0].L, impl.Post{Id: s.Next, Glue: true, View: []int{s.Next}})
		s.Next++
	}
	s.View[0].R[0], s.Sc[0] = s.Next-1, s.Next-1
	if !impl.StateOk(p, s) || !impl.Done(p, s) {
		t.Error("the longest history is refused")
	}
	s.H[0].L = append(s.H[0].L, impl.Post{Id: s.Next, View: []int{s.Next}})
	s.Next++
	if impl.StateOk(p, s) {
		t.Error("a longer history than the longest one is accepted")
	}
}
