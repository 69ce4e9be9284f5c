package tests

import (
	"math"
	"testing"

	"loop.example/g00713/impl"
)

// waits is a buffer with Waits of an X and a Val each.
func waits(pairs ...int) impl.Buf {
	b := impl.Buf{}
	for k := 0; k+1 < len(pairs); k += 2 {
		b.L = append(b.L, impl.Wait{X: pairs[k], Val: pairs[k+1]})
	}
	return b
}

// fullBufs are buffers of 0 to MaxBuf and 2 Waits.
func fullBufs() []impl.Buf {
	out := []impl.Buf{{}}
	for n := 1; n <= impl.MaxBuf+2; n++ {
		out = append(out, waits())
		for k := range n {
			out[n].L = append(out[n].L, impl.Wait{X: k % 3, Val: 10 + k})
		}
	}
	return out
}

// manyBufs are all buffers of up to MaxBuf and 1 Waits for X in -1 .. 2, with
// no Val twice.
func manyBufs() []impl.Buf {
	out := []impl.Buf{{}}
	from := 0
	for n := range impl.MaxBuf + 1 {
		to := len(out)
		for _, b := range out[from:to] {
			for x := -1; x <= 2; x++ {
				l := append([]impl.Wait{}, b.L...)
				out = append(out, impl.Buf{L: append(l, impl.Wait{X: x, Val: 100 + n})})
			}
		}
		from = to
	}
	return out
}

// someMems are memories of 0 to 3 cells.
func someMems() [][]int {
	return [][]int{nil, {7}, {7, 8}, {7, 8, 9}}
}

func wantRead(t *testing.T, want int, b impl.Buf, mem []int, x int) {
	t.Helper()
	if got := impl.BufRead(b, mem, x); got != want {
		t.Errorf("cell %d of %v reads as %d behind %v, want %d", x, mem, got, b.L, want)
	}
}

func TestBufReadLastWait(t *testing.T) {
	mem := []int{7, 8}
	wantRead(t, 5, waits(0, 5), mem, 0)
	wantRead(t, 6, waits(0, 5, 0, 6), mem, 0)
	wantRead(t, 4, waits(0, 6, 0, 5, 0, 4), mem, 0)
	wantRead(t, 6, waits(0, 5, 0, 6, 1, 4), mem, 0)
	wantRead(t, 4, waits(1, 4, 0, 5, 0, 6), mem, 1)
	wantRead(t, 2, waits(1, 4, 0, 5, 1, 3, 1, 2), mem, 1)
	wantRead(t, 0, waits(1, 4, 1, 0), mem, 1)
	wantRead(t, math.MinInt, waits(1, math.MaxInt, 1, math.MinInt), mem, 1)
	wantRead(t, 15, fullBufs()[impl.MaxBuf+2], mem, 2)
}

func TestBufReadMemory(t *testing.T) {
	mem := []int{7, math.MinInt, math.MaxInt}
	for _, b := range []impl.Buf{{}, waits(), waits(-1, 5), waits(3, 5), waits(3, 5, -1, 6, 4, 7, -2, 8)} {
		for x, val := range mem {
			wantRead(t, val, b, mem, x)
		}
	}
	wantRead(t, math.MaxInt, waits(0, 5, 1, 6), mem, 2)
	wantRead(t, 7, waits(1, 5, 2, 6, 1, 4), mem, 0)
}

// Where there is no such cell, its Wait is read for all that.
func TestBufReadNoCell(t *testing.T) {
	for _, mem := range someMems() {
		for _, x := range append([]int{-2, len(mem), len(mem) + 1}, farInts...) {
			wantRead(t, 0, impl.Buf{}, mem, x)
			wantRead(t, 0, waits(9, 5, 8, 6), mem, x)
			wantRead(t, 5, waits(x, 5), mem, x)
			wantRead(t, 6, waits(x, 5, x, 6, 9, 4), mem, x)
		}
	}
	for _, x := range farInts {
		wantRead(t, 0, waits(0, 5, 1, 6, 2, 4, 0, 3), []int{7, 8, 9}, x)
	}
}

func TestBufPut(t *testing.T) {
	for n, b := range fullBufs() {
		for _, x := range append([]int{0, 1, 2, 5, 6}, farInts...) {
			for _, val := range append([]int{0, 3}, farInts...) {
				want := impl.Buf{}
				if n < impl.MaxBuf {
					want.L = append(append(want.L, b.L...), impl.Wait{X: x, Val: val})
				}
				c, ok := impl.BufPut(b, x, val)
				if ok != (n < impl.MaxBuf) || !sameValue(c, want) {
					t.Fatalf("%d Waits and one of %d and %d: %v, %v", n, x, val, c, ok)
				}
			}
		}
	}
}

func refusesFlush(t *testing.T, b impl.Buf, mem []int) {
	t.Helper()
	if c, after, ok := impl.BufFlush(b, mem); ok || len(c.L) != 0 || len(after) != 0 {
		t.Errorf("%v is flushed into %v: %v, %v, %v", b.L, mem, c.L, after, ok)
	}
}

func TestBufFlushRefused(t *testing.T) {
	for _, mem := range someMems() {
		refusesFlush(t, impl.Buf{}, mem)
		refusesFlush(t, impl.Buf{L: []impl.Wait{}}, mem)
		for _, x := range append([]int{-2, len(mem), len(mem) + 1}, farInts...) {
			refusesFlush(t, waits(x, 5), mem)
			refusesFlush(t, waits(x, 5, 0, 6), mem)
			refusesFlush(t, waits(x, 5, 0, 6, x, 4, 0, 3, 0, 2), mem)
		}
	}
}

func wantFlush(t *testing.T, b impl.Buf, mem []int, left impl.Buf, want ...int) {
	t.Helper()
	if c, after, ok := impl.BufFlush(b, mem); !ok || !sameValue(c, left) || !sameValue(after, want) {
		t.Errorf("%v is flushed into %v: %v, %v, %v; want %v, %v", b.L, mem, c.L, after, ok, left.L, want)
	}
}

func TestBufFlush(t *testing.T) {
	mem := []int{7, 8, 9}
	wantFlush(t, waits(0, 5), mem, waits(), 5, 8, 9)
	wantFlush(t, waits(2, 5), mem, waits(), 7, 8, 5)
	wantFlush(t, waits(1, 0), mem, waits(), 7, 0, 9)
	wantFlush(t, waits(1, 5, 1, 6), mem, waits(1, 6), 7, 5, 9)
	wantFlush(t, waits(1, 5, 0, 6, 1, 4), mem, waits(0, 6, 1, 4), 7, 5, 9)
	wantFlush(t, waits(2, math.MinInt, -1, 6, 3, 4), mem, waits(-1, 6, 3, 4), 7, 8, math.MinInt)
	wantFlush(t, waits(0, math.MaxInt, math.MinInt, 6), mem[:1], waits(math.MinInt, 6), math.MaxInt)
	wantFlush(t, waits(0, 1, 1, 2, 2, 3, 1, 4), mem, waits(1, 2, 2, 3, 1, 4), 1, 8, 9)
	wantFlush(t, waits(1, 1, 1, 2, 2, 3, 1, 4, 0, 5, 0, 6), mem, waits(1, 2, 2, 3, 1, 4, 0, 5, 0, 6), 7, 1, 9)
}

func wantAll(t *testing.T, b impl.Buf, mem []int, want ...int) {
	t.Helper()
	if got := impl.BufAll(b, mem); !sameValue(got, want) {
		t.Errorf("%v behind all of %v is %v, want %v", mem, b.L, got, want)
	}
}

func TestBufAll(t *testing.T) {
	mem := []int{7, 8, 9}
	wantAll(t, impl.Buf{}, mem, 7, 8, 9)
	wantAll(t, waits(1, 5), mem, 7, 5, 9)
	wantAll(t, waits(0, 5, 2, 6), mem, 5, 8, 6)
	wantAll(t, waits(0, 5, 0, 6), mem, 6, 8, 9)
	wantAll(t, waits(0, 6, 2, 0, 0, 5, 1, math.MinInt), mem, 5, math.MinInt, 0)
	wantAll(t, waits(0, 1, 1, 2, 2, 3, 1, 4, 0, 5, 0, 6), mem, 6, 4, 3)
}

func TestBufAllNoCells(t *testing.T) {
	mem := []int{7, 8}
	for _, x := range append([]int{2, 3, -2}, farInts...) {
		wantAll(t, waits(x, 5), mem, 7, 8)
		wantAll(t, waits(x, 5, 0, 6), mem, 6, 8)
		wantAll(t, waits(0, 6, x, 5), mem, 6, 8)
		wantAll(t, waits(1, 6, x, 5, 0, 4, x, 3, 1, 2), mem, 4, 2)
		wantAll(t, waits(x, 5, 0, 6), nil)
	}
	for _, b := range fullBufs() {
		wantAll(t, b, nil)
		wantAll(t, b, []int{})
	}
}

// readBy is what one reads, told by the writes from the first one on.
func readBy(b impl.Buf, mem []int, x int) int {
	cells := map[int]int{}
	for k, val := range mem {
		cells[k] = val
	}
	for _, wait := range b.L {
		cells[wait.X] = wait.Val
	}
	return cells[x]
}

// Promise 3: one reads one's own last write.
func TestBufOneReadsOnesLastWrite(t *testing.T) {
	for _, b := range manyBufs() {
		for _, mem := range someMems() {
			for x := -2; x <= 4; x++ {
				wantRead(t, readBy(b, mem, x), b, mem, x)
			}
			for put := -2; put <= 4; put++ {
				c, ok := impl.BufPut(b, put, 55)
				if !ok {
					continue
				}
				wantRead(t, 55, c, mem, put)
				for x := -2; x <= 4; x++ {
					if x != put {
						wantRead(t, impl.BufRead(b, mem, x), c, mem, x)
					}
				}
			}
		}
	}
}

// Promise 3: when all are let go, the memory is what one read.
func TestBufAllIsWhatOneRead(t *testing.T) {
	for _, b := range manyBufs() {
		for _, mem := range someMems() {
			want := make([]int, len(mem))
			for x := range mem {
				want[x] = impl.BufRead(b, mem, x)
			}
			wantAll(t, b, mem, want...)
		}
	}
}

// Promise 3: one by one they come to the same memory as all at once, and on the
// way what one reads stays the same.
func TestBufFlushOneByOne(t *testing.T) {
	n := 0
	for _, b := range manyBufs() {
		for _, mem := range someMems() {
			all := impl.BufAll(b, mem)
			left, now := b, mem
			for c, after, ok := impl.BufFlush(left, now); ok; c, after, ok = impl.BufFlush(left, now) {
				if len(c.L) != len(left.L)-1 {
					t.Fatalf("%v is flushed to %v", left.L, c.L)
				}
				left, now = c, after
				for x := range mem {
					wantRead(t, all[x], left, now, x)
				}
			}
			if len(left.L) > 0 {
				continue
			}
			n++
			if !sameValue(now, all) {
				t.Fatalf("%v one by one in %v: %v, all at once %v", b.L, mem, now, all)
			}
		}
	}
	if n < 400 {
		t.Errorf("only %d buffers were emptied", n)
	}
}

// bufAnswer is what the functions of buffers answer.
type bufAnswer struct {
	Put     impl.Buf
	Flushed impl.Buf
	After   []int
	All     []int
}

func bufAnswers(b impl.Buf, mem []int) bufAnswer {
	var a bufAnswer
	impl.BufRead(b, mem, 1)
	a.Put, _ = impl.BufPut(b, 1, 55)
	a.Flushed, a.After, _ = impl.BufFlush(b, mem)
	a.All = impl.BufAll(b, mem)
	return a
}

func TestBufIsNewMemory(t *testing.T) {
	for _, tight := range append(fullBufs(), waits(-1, 5), waits(0, 5, 9, 6, 1, 4)) {
		for _, cells := range someMems() {
			for _, roomy := range []bool{false, true} {
				b, mem := deepCopy(tight), deepCopy(cells)
				if roomy {
					b, mem = withRoom(tight), withRoom(cells)
				}
				oldBuf, oldMem := deepCopy(b), deepCopy(mem)
				a := bufAnswers(b, mem)
				if sharesMemory(a, b, mem) {
					t.Fatalf("%v and %v share memory with %+v", b, mem, a)
				}
				if !wholeSame(b, oldBuf) || !wholeSame(mem, oldMem) {
					t.Fatalf("%v and %v were changed to %v and %v", oldBuf, oldMem, b, mem)
				}
				// Nothing is kept from one call to another.
				if again := bufAnswers(b, mem); !sameValue(a, again) {
					t.Fatalf("%+v and then %+v", a, again)
				}
			}
		}
	}
}
