package tests

import (
	"math"
	"slices"
	"testing"

	"loop.example/g00713/impl"
)

// history has posts with these Ids; Val is 50, 49 and so on, so that a post that
// is found by its Val shows.
func history(ids ...int) impl.Hist {
	h := impl.Hist{}
	for place, id := range ids {
		h.L = append(h.L, impl.Post{Id: id, Val: 50 - place, View: []int{id, 1}})
	}
	return h
}

// glued is h where the posts at these places are Glue, and no others.
func glued(h impl.Hist, places ...int) impl.Hist {
	h = deepCopy(h)
	for place := range h.L {
		h.L[place].Glue = slices.Contains(places, place)
	}
	return h
}

// manyHists are all histories of up to 4 posts with Ids in 0 .. 2, each Glue or
// not, the first one, too.
func manyHists() []impl.Hist {
	out := []impl.Hist{{}}
	from := 0
	for range 4 {
		to := len(out)
		for _, h := range out[from:to] {
			for id := range 3 {
				for _, glue := range []bool{false, true} {
					l := append([]impl.Post{}, h.L...)
					out = append(out, impl.Hist{L: append(l, impl.Post{Id: id, Val: 2 - id, Glue: glue, View: []int{1}})})
				}
			}
		}
		from = to
	}
	return out
}

// idsOf are the Ids of a history's posts.
func idsOf(h impl.Hist) []int {
	var out []int
	for _, post := range h.L {
		out = append(out, post.Id)
	}
	return out
}

func wantPlace(t *testing.T, want int, h impl.Hist, id int) {
	t.Helper()
	if got := impl.PlaceOf(h, id); got != want {
		t.Errorf("%d stands at %d of %v, want %d", id, got, idsOf(h), want)
	}
}

func TestPlaceOf(t *testing.T) {
	h := history(5, 2, 9, 1)
	for place, id := range []int{5, 2, 9, 1} {
		wantPlace(t, place, h, id)
		wantPlace(t, place, glued(h, place), id)
		wantPlace(t, place, glued(h, 0, 1, 2, 3), id)
	}
	wantPlace(t, 0, history(7), 7)
	wantPlace(t, 0, history(0), 0)
}

func TestPlaceOfFirst(t *testing.T) {
	wantPlace(t, 0, history(4, 4), 4)
	wantPlace(t, 0, history(4, 5, 4), 4)
	wantPlace(t, 1, history(5, 4, 4, 6), 4)
	wantPlace(t, 1, history(5, 4, 6, 4, 4), 4)
	wantPlace(t, 1, glued(history(5, 4, 4), 2), 4)
	wantPlace(t, 1, glued(history(5, 4, 4), 1), 4)
}

func TestPlaceOfNowhere(t *testing.T) {
	for _, id := range append([]int{0, 3, 4, 50, 49}, farInts...) {
		wantPlace(t, -1, impl.Hist{}, id)
		wantPlace(t, -1, impl.Hist{L: []impl.Post{}}, id)
		wantPlace(t, -1, history(5, 2, 9, 1), id)
		wantPlace(t, -1, glued(history(5, 2, 9, 1), 0, 3), id)
	}
}

func TestPlaceOfFarIds(t *testing.T) {
	for place, id := range farInts {
		wantPlace(t, place, history(farInts...), id)
		wantPlace(t, 1, history(3, id, id), id)
	}
}

func TestPlaceOfLong(t *testing.T) {
	h := impl.Hist{}
	for k := range 3000 {
		h.L = append(h.L, impl.Post{Id: k / 2 * 7})
	}
	for k := range 1500 {
		wantPlace(t, 2*k, h, 7*k)
		wantPlace(t, -1, h, 7*k+1)
	}
}

func wantJoin(t *testing.T, hs []impl.Hist, a []int, b []int, want ...int) {
	t.Helper()
	if got := impl.ViewJoin(hs, a, b); !sameValue(got, want) {
		t.Errorf("%v and %v are joined to %v, want %v", a, b, got, want)
	}
}

// wantCellJoin is about one cell, with a and b in both orders where the answer
// is not to depend on them.
func wantCellJoin(t *testing.T, h impl.Hist, a int, b int, want int) {
	t.Helper()
	wantJoin(t, []impl.Hist{h}, []int{a}, []int{b}, want)
	wantJoin(t, []impl.Hist{h}, []int{b}, []int{a}, want)
}

func TestViewJoinFurtherBack(t *testing.T) {
	h := history(5, 2, 9, 1)
	wantCellJoin(t, h, 5, 2, 2)
	wantCellJoin(t, h, 2, 9, 9)
	wantCellJoin(t, h, 9, 1, 1)
	wantCellJoin(t, h, 5, 1, 1)
	wantCellJoin(t, glued(h, 2), 2, 9, 9)
	wantCellJoin(t, glued(h, 0, 1), 5, 2, 2)
	wantCellJoin(t, history(math.MaxInt, math.MinInt), math.MaxInt, math.MinInt, math.MinInt)
}

func TestViewJoinSame(t *testing.T) {
	h := history(5, 2, 9, 1)
	for _, id := range append([]int{5, 2, 9, 1, 4}, farInts...) {
		wantCellJoin(t, h, id, id, id)
		wantCellJoin(t, impl.Hist{}, id, id, id)
	}
}

func TestViewJoinOneNowhere(t *testing.T) {
	h := history(5, 2, 9, 1)
	for _, here := range []int{5, 2, 9, 1} {
		for _, nowhere := range append([]int{0, 4, 50}, farInts...) {
			wantCellJoin(t, h, here, nowhere, here)
		}
	}
	wantCellJoin(t, history(math.MinInt), math.MinInt, math.MaxInt, math.MinInt)
}

func TestViewJoinBothNowhere(t *testing.T) {
	nowhere := append([]int{0, 4, 50}, farInts...)
	for _, h := range []impl.Hist{{}, history(5, 2, 9, 1), glued(history(3), 0)} {
		for _, a := range nowhere {
			for _, b := range nowhere {
				wantJoin(t, []impl.Hist{h}, []int{a}, []int{b}, a)
			}
		}
	}
}

func TestViewJoinFirstOfTwoPlaces(t *testing.T) {
	wantCellJoin(t, history(4, 5, 4), 4, 5, 5)
	wantCellJoin(t, history(4, 5, 4, 5), 4, 5, 5)
	wantCellJoin(t, history(5, 4, 5, 4), 4, 5, 4)
	wantCellJoin(t, history(4, 4), 4, 6, 4)
}

// Each cell goes by its own history alone, whatever stands in those of others.
func TestViewJoinCells(t *testing.T) {
	hs := []impl.Hist{history(5, 2, 9), history(2, 5), {}, glued(history(7, 3), 1)}
	wantJoin(t, hs, []int{2, 2, 2, 7}, []int{5, 5, 5, 3}, 2, 5, 2, 3)
	wantJoin(t, hs, []int{5, 5, 5, 3}, []int{2, 2, 2, 7}, 2, 5, 5, 3)
	wantJoin(t, hs, []int{7, 9, 5, 2}, []int{3, 2, 9, 5}, 7, 2, 5, 2)
	wantJoin(t, hs, []int{9, 2, 0, -1}, []int{9, 2, 0, 3}, 9, 2, 0, 3)
}

func TestViewJoinLengths(t *testing.T) {
	hs := []impl.Hist{history(0, 4), history(1, 5), history(2, 6)}
	for cells := range 4 {
		for as := range 5 {
			for bs := range 5 {
				var want []int
				if as == cells && bs == cells {
					want = []int{4, 5, 6}[:cells]
				}
				wantJoin(t, hs[:cells], []int{0, 5, 2, 3}[:as], []int{4, 1, 6, 3}[:bs], want...)
			}
		}
	}
	wantJoin(t, nil, nil, nil)
	wantJoin(t, nil, []int{1}, []int{1})
	wantJoin(t, hs[:1], nil, nil)
}

func wantReadable(t *testing.T, h impl.Hist, id int, want ...int) {
	t.Helper()
	if got := impl.Readable(h, id); !sameValue(got, want) {
		t.Errorf("from %d on %v may be read of %v, want %v", id, got, idsOf(h), want)
	}
}

func wantWritable(t *testing.T, h impl.Hist, id int, want ...int) {
	t.Helper()
	if got := impl.Writable(h, id); !sameValue(got, want) {
		t.Errorf("behind %d one may write at %v of %+v, want %v", id, got, h.L, want)
	}
}

func TestReadable(t *testing.T) {
	h := history(5, 2, 9, 1)
	for _, h := range []impl.Hist{h, glued(h, 0), glued(h, 2), glued(h, 1, 2, 3)} {
		wantReadable(t, h, 5, 0, 1, 2, 3)
		wantReadable(t, h, 2, 1, 2, 3)
		wantReadable(t, h, 9, 2, 3)
		wantReadable(t, h, 1, 3)
	}
	wantReadable(t, history(0), 0, 0)
	wantReadable(t, history(4, 5, 4, 5), 4, 0, 1, 2, 3)
	wantReadable(t, history(4, 5, 4, 5), 5, 1, 2, 3)
	for place, id := range farInts {
		wantReadable(t, history(farInts...), id, []int{0, 1, 2, 3, 4}[place:]...)
	}
}

func TestWritableNoGlue(t *testing.T) {
	h := history(5, 2, 9, 1)
	wantWritable(t, h, 5, 1, 2, 3, 4)
	wantWritable(t, h, 2, 2, 3, 4)
	wantWritable(t, h, 9, 3, 4)
	wantWritable(t, h, 1, 4)
	wantWritable(t, history(0), 0, 1)
	wantWritable(t, history(4, 5, 4, 5), 4, 1, 2, 3, 4)
	wantWritable(t, history(4, 5, 4, 5), 5, 2, 3, 4)
	for place, id := range farInts {
		wantWritable(t, history(farInts...), id, []int{1, 2, 3, 4, 5}[place:]...)
	}
}

// Glue right behind what one knows, between others, last, and all of it.
func TestWritableGlue(t *testing.T) {
	h := history(5, 2, 9, 1)
	wantWritable(t, glued(h, 1), 5, 2, 3, 4)
	wantWritable(t, glued(h, 2), 5, 1, 3, 4)
	wantWritable(t, glued(h, 3), 5, 1, 2, 4)
	wantWritable(t, glued(h, 1, 2), 5, 3, 4)
	wantWritable(t, glued(h, 2, 3), 5, 1, 4)
	wantWritable(t, glued(h, 1, 3), 5, 2, 4)
	wantWritable(t, glued(h, 1, 2, 3), 5, 4)
	wantWritable(t, glued(h, 2), 2, 3, 4)
	wantWritable(t, glued(h, 3), 9, 4)
}

// Whether what one knows is Glue itself, or stands ahead of it, is all the same.
func TestWritableGlueAhead(t *testing.T) {
	h := history(5, 2, 9, 1)
	wantWritable(t, glued(h, 0), 5, 1, 2, 3, 4)
	wantWritable(t, glued(h, 0, 1), 5, 2, 3, 4)
	wantWritable(t, glued(h, 1), 2, 2, 3, 4)
	wantWritable(t, glued(h, 0, 1, 2), 9, 3, 4)
	wantWritable(t, glued(h, 3), 1, 4)
	wantWritable(t, glued(history(3), 0), 3, 1)
	wantWritable(t, glued(history(4, 4, 4), 2), 4, 1, 3)
}

func TestReadableWritableNowhere(t *testing.T) {
	for _, h := range []impl.Hist{{}, {L: []impl.Post{}}, history(5, 2, 9, 1), glued(history(5, 2), 0, 1)} {
		for _, id := range append([]int{0, 4, 50}, farInts...) {
			wantReadable(t, h, id)
			wantWritable(t, h, id)
		}
	}
}

// firstPlace is the document's rule, post by post.
func firstPlace(h impl.Hist, id int) int {
	for place, post := range h.L {
		if post.Id == id {
			return place
		}
	}
	return -1
}

func TestHistoriesAgainstTheRule(t *testing.T) {
	for _, h := range manyHists() {
		for id := -1; id <= 3; id++ {
			known := firstPlace(h, id)
			var readable, writable []int
			for place := 0; known >= 0 && place <= len(h.L); place++ {
				if place >= known && place < len(h.L) {
					readable = append(readable, place)
				}
				if place > known && (place == len(h.L) || !h.L[place].Glue) {
					writable = append(writable, place)
				}
			}
			wantPlace(t, known, h, id)
			wantReadable(t, h, id, readable...)
			wantWritable(t, h, id, writable...)
		}
	}
}

// Promise 4: who joins two views knows what either knows, and nothing more.
func TestJoinedKnowsWhatEitherKnows(t *testing.T) {
	for _, h := range manyHists() {
		for a := -1; a <= 3; a++ {
			for b := -1; b <= 3; b++ {
				joined := impl.ViewJoin([]impl.Hist{h}, []int{a}, []int{b})
				if len(joined) != 1 || joined[0] != a && joined[0] != b {
					t.Fatalf("%d and %d are joined to %v", a, b, joined)
				}
				wantPlace(t, max(firstPlace(h, a), firstPlace(h, b)), h, joined[0])
				wantCellJoin(t, h, joined[0], joined[0], joined[0])
				if firstPlace(h, a) == firstPlace(h, b) && joined[0] != a {
					t.Errorf("%d and %d are joined to %d", a, b, joined[0])
				}
			}
		}
	}
}

// parts tells whether a post put at the place stands between one that is Glue
// and the one ahead of it.
func parts(h impl.Hist, place int) bool {
	l := slices.Insert(slices.Clone(h.L), place, impl.Post{Id: 99})
	return place+1 < len(l) && l[place+1].Glue
}

// Promise 4: where one may write is behind what one knows, parts none that is
// Glue from what it stands behind, and at the end one always may.
func TestWriteBehindWhatOneKnows(t *testing.T) {
	n := 0
	for _, h := range manyHists() {
		for _, id := range idsOf(h) {
			n++
			known := firstPlace(h, id)
			places := impl.Writable(h, id)
			if len(places) == 0 || places[len(places)-1] != len(h.L) || !slices.IsSorted(places) {
				t.Fatalf("behind %d one may write at %v of %v", id, places, idsOf(h))
			}
			for place := 0; place <= len(h.L); place++ {
				if slices.Contains(places, place) != (place > known && !parts(h, place)) {
					t.Fatalf("behind %d one may write at %v of %+v", id, places, h.L)
				}
			}
		}
	}
	if n < 5000 {
		t.Errorf("only %d views were tried", n)
	}
}

// Promise 4 for states: what a thread knows is where it may read at first.
func TestViewsOfStates(t *testing.T) {
	states := []impl.State{written()}
	for _, p := range goodProgs() {
		states = append(states, started(t, p, impl.KdView))
	}
	for _, s := range states {
		for _, view := range append(s.View, impl.File{R: s.Sc}) {
			wantJoin(t, s.H, view.R, s.Sc, impl.ViewJoin(s.H, s.Sc, view.R)...)
			for cell, id := range view.R {
				known := firstPlace(s.H[cell], id)
				if r := impl.Readable(s.H[cell], id); len(r) != len(s.H[cell].L)-known || r[0] != known {
					t.Fatalf("cell %d may be read at %v from %d on", cell, r, id)
				}
				if w := impl.Writable(s.H[cell], id); w[len(w)-1] != len(s.H[cell].L) {
					t.Fatalf("cell %d may be written at %v behind %d", cell, w, id)
				}
			}
		}
	}
	s := written()
	wantJoin(t, s.H, s.View[0].R, s.View[1].R, 3, 1, 4)
	wantJoin(t, s.H, s.View[1].R, s.Sc, 3, 1, 2)
	wantWritable(t, s.H[2], 5, 1, 3)
}

// viewAnswer is what the functions of views answer.
type viewAnswer struct {
	Joined   []int
	Readable []int
	Writable []int
}

func viewAnswers(hs []impl.Hist, a []int, b []int) viewAnswer {
	impl.PlaceOf(hs[0], a[0])
	return viewAnswer{
		Joined:   impl.ViewJoin(hs, a, b),
		Readable: impl.Readable(hs[0], a[0]),
		Writable: impl.Writable(hs[0], a[0]),
	}
}

func TestViewsAreNewMemory(t *testing.T) {
	tight := []impl.Hist{glued(history(5, 2, 9, 1), 0, 2), history(3), {}}
	for _, as := range [][]int{{5, 3, 0}, {2, 4, 0}, {1, 3, 7}, {8, 8, 8}} {
		for _, bs := range [][]int{{5, 3, 0}, {9, 3, 1}, {1, 1, 1}} {
			for _, roomy := range []bool{false, true} {
				hs, a, b := deepCopy(tight), deepCopy(as), deepCopy(bs)
				if roomy {
					hs, a, b = withRoom(tight), withRoom(as), withRoom(bs)
				}
				oldHists, oldA, oldB := deepCopy(hs), deepCopy(a), deepCopy(b)
				got := viewAnswers(hs, a, b)
				if sharesMemory(got, hs, a, b) {
					t.Fatalf("%+v, %v and %v share memory with %+v", hs, a, b, got)
				}
				if !wholeSame(hs, oldHists) || !wholeSame(a, oldA) || !wholeSame(b, oldB) {
					t.Fatalf("%+v, %v and %v were changed to %+v, %v and %v", oldHists, oldA, oldB, hs, a, b)
				}
				// Nothing is kept from one call to another.
				if again := viewAnswers(hs, a, b); !sameValue(got, again) || sharesMemory([]viewAnswer{got, again}) {
					t.Fatalf("%+v and then %+v", got, again)
				}
			}
		}
	}
}

// A history that was looked up is looked up anew when it has changed.
func TestViewsFollowTheirHistory(t *testing.T) {
	h := history(5, 2, 9)
	wantPlace(t, 1, h, 2)
	wantWritable(t, h, 5, 1, 2, 3)
	h.L[1].Id, h.L[2].Id, h.L[2].Glue = 9, 2, true
	wantPlace(t, 2, h, 2)
	wantReadable(t, h, 9, 1, 2)
	wantWritable(t, h, 5, 1, 3)
	wantCellJoin(t, h, 9, 2, 2)
}
