package tests

import (
	"math/rand"
	"slices"
	"strings"
	"testing"

	"loop.example/g00713/impl"
)

func TestInsTextWrittenOut(t *testing.T) {
	for _, x := range []struct {
		i    impl.Ins
		want string
	}{
		{insSet(1, 2), "r1 = 2"},
		{insSet(0, 0), "r0 = 0"},
		{insSet(5, -17), "r5 = -17"},
		{impl.Ins{Op: impl.InMov, R: 1, A: 2}, "r1 = r2"},
		{insAdd(1, 2, 3), "r1 = r2 + r3"},
		{insSub(1, 2, 3), "r1 = r2 - r3"},
		{insLess(1, 2, 3), "r1 = r2 < r3"},
		{insSame(1, 2, 3), "r1 = r2 == r3"},
		{insLoad(1, 2), "r1 = [2]"},
		{insStore(1, 2), "[1] = r2"},
		{insLoadAt(1, 2, 3, 4), "r1 = [2 + r3 % 4]"},
		{insStoreAt(1, 2, 3, 4), "[1 + r2 % 3] = r4"},
		{insCas(1, 2, 3, 4), "r1 = cas [2] r3 r4"},
		{insFence, "fence"},
		{insZero(1, 2), "if r1 == 0 goto 2"},
		{insJump(1), "goto 1"},
		// What is no register, no cell and no number of an instruction is written, too.
		{insSub(-1, -20, -300), "r-1 = r-20 - r-300"},
		{insLoadAt(6, -7, 80, -9), "r6 = [-7 + r80 % -9]"},
		{insStoreAt(-1, -2, -3, -4), "[-1 + r-2 % -3] = r-4"},
		{insCas(-1, -2, -3, -4), "r-1 = cas [-2] r-3 r-4"},
		{insZero(-1, -2), "if r-1 == 0 goto -2"},
		{insJump(-10), "goto -10"},
		{insSet(maxInt, minInt), "r9223372036854775807 = -9223372036854775808"},
		{insStore(minInt, maxInt), "[-9223372036854775808] = r9223372036854775807"},
		{insSub(minInt, minInt, minInt), "r-9223372036854775808 = r-9223372036854775808 - r-9223372036854775808"},
	} {
		wantInsText(t, x.i, x.want)
		wantReadInsOfText(t, x.i, x.want)
	}
}

// wantReadInsOfText holds what ReadIns makes of an instruction's text against
// the instruction.
func wantReadInsOfText(t *testing.T, i impl.Ins, s string) {
	t.Helper()
	if len(s) <= maxInsText {
		wantReadIns(t, s, i)
	} else {
		refusesIns(t, s)
	}
}

// eachFields goes through all instructions of an Op with these numbers in their
// fields.
func eachFields(op int, numbers []int, f func(i impl.Ins)) {
	for _, r := range numbers {
		for _, a := range numbers {
			for _, b := range numbers {
				for _, x := range numbers {
					for _, n := range numbers {
						f(impl.Ins{Op: op, R: r, A: a, B: b, X: x, N: n})
					}
				}
			}
		}
	}
}

func TestInsTextAgainstTheRule(t *testing.T) {
	for op := impl.InSet; op <= impl.InJump; op++ {
		eachFields(op, []int{0, 3, -12, maxInt, minInt}, func(i impl.Ins) { wantInsText(t, i, insByRule(i)) })
	}
	for _, i := range manyIns() {
		wantInsText(t, i, insByRule(i))
	}
}

func TestInsTextOtherOps(t *testing.T) {
	for _, op := range append([]int{-2, 0, 15, 16, 256 + impl.InFence, 1 << 32, 1<<32 + impl.InFence}, farInts...) {
		eachFields(op, []int{0, 1, -1}, func(i impl.Ins) { wantInsText(t, i, "") })
	}
}

// What is not written makes no difference.
func TestInsTextOtherFields(t *testing.T) {
	for _, x := range insShapes {
		i := full(x.op)
		for _, field := range "RABXN" {
			for _, value := range append([]int{7}, farInts...) {
				written := strings.ContainsRune(x.fields, field)
				if got := impl.InsText(set(i, field, value)); (got != impl.InsText(i)) != written {
					t.Errorf("%+v with %d in %c is %q", i, value, field, got)
				}
			}
		}
	}
}

func TestReadInsEachOp(t *testing.T) {
	for _, x := range insShapes {
		wantReadIns(t, x.textOf("1", "2", "3", "4"), x.insOf(1, 2, 3, 4))
		wantReadIns(t, x.textOf("0", "0", "0", "0"), x.insOf(0, 0, 0, 0))
		wantReadIns(t, x.textOf("-4", "30", "-200", "1000"), x.insOf(-4, 30, -200, 1000))
	}
}

// fieldNumbers are numbers for one field beside others of one digit.
var fieldNumbers = []int{0, 1, 5, 6, 10, -1, -10, 99, maxInt, maxInt - 1, minInt, minInt + 1}

func TestReadInsEachNumber(t *testing.T) {
	for _, x := range insShapes {
		for k := range x.fields {
			for _, n := range fieldNumbers {
				numbers := []int{1, 2, 3, 4}
				numbers[k] = n
				i := x.insOf(numbers...)
				wantReadIns(t, insByRule(i), i)
			}
		}
	}
}

// What is no number, or is not written as one.
var noNumbers = []string{
	"", "-", "--1", "1-", "-1-", "1-1", "+", "+1", "+0", "-0", "-00", "00", "01", "007", "-01", "0-", "- 1", "-+1", "+-1",
	"9223372036854775808", "-9223372036854775809", "9223372036854775810", "10000000000000000000", "18446744073709551615", "18446744073709551616", "18446744073709551617", "99999999999999999999",
	"09223372036854775807", "1_0", "0x1", "1e1", "1.0", "1.", ".1", "1,0", "a", "N", "r", "r1", "#", "\u0661", "\uff11", "1\x00", "\x001", "1\n", "\n1", "1\t", "\t1", " 1", "1 ", " ",
}

func TestReadInsNoNumbers(t *testing.T) {
	for _, x := range insShapes {
		for k := range x.fields {
			for _, word := range noNumbers {
				words := []string{"1", "2", "3", "4"}
				words[k] = word
				// A number with an r ahead is a register, where one may stand, too.
				if x.op == impl.InSet && k == 1 && word == "r1" {
					wantReadIns(t, x.textOf(words...), impl.Ins{Op: impl.InMov, R: 1, A: 1})
					continue
				}
				refusesIns(t, x.textOf(words...))
			}
		}
	}
}

// digits is a number of n bytes.
func digits(n int) int {
	out := 0
	for range n {
		out = 10*out + 7
	}
	return out
}

func TestReadInsSixtyBytes(t *testing.T) {
	tried := 0
	for _, x := range insShapes {
		for _, far := range []int{minInt, minInt + 3, maxInt} {
			for n := 1; n <= 18; n++ {
				numbers := []int{far, far, digits(n), digits(n)}
				if len(x.fields) == 4 {
					numbers[3] = digits(19 - n)
				}
				i := x.insOf(numbers...)
				s := insByRule(i)
				wantReadInsOfText(t, i, s)
				if len(s) == maxInsText || len(s) == maxInsText+1 {
					tried++
				}
			}
		}
	}
	if tried < 18 {
		t.Errorf("only %d texts of 60 and 61 bytes", tried)
	}
	wantReadIns(t, "r-9223372036854775808 = r-9223372036854775808 + r12345678901", insAdd(minInt, minInt, 12345678901))
	refusesIns(t, "r-9223372036854775808 = r-9223372036854775808 + r123456789012")
	wantReadIns(t, "r1 = cas [9223372036854775807] r9223372036854775807 r1234567", insCas(1, maxInt, maxInt, 1234567))
	refusesIns(t, "r1 = cas [9223372036854775807] r9223372036854775807 r12345678")
	refusesIns(t, "r1 = cas [9223372036854775807] r9223372036854775807 r123456789")
	refusesIns(t, "fence"+strings.Repeat(" ", 55))
	refusesIns(t, "fence"+strings.Repeat(" ", 56))
}

// blanksAway are texts that differ from one in blanks, or in what stands for one.
func blanksAway(s string) []string {
	out := []string{" " + s, s + " ", "  " + s, s + "  ", strings.ReplaceAll(s, " ", ""), strings.ReplaceAll(s, " ", "  ")}
	for at := range len(s) {
		out = append(out, s[:at]+" "+s[at:])
		if s[at] == ' ' {
			out = append(out, s[:at]+s[at+1:], s[:at]+"  "+s[at+1:], s[:at]+"\t"+s[at+1:], s[:at]+"\n"+s[at+1:], s[:at]+"\u00a0"+s[at+1:])
		}
	}
	return out
}

func TestReadInsBlanks(t *testing.T) {
	for _, x := range insShapes {
		for _, s := range []string{x.textOf("1", "2", "3", "4"), x.textOf("-1", "20", "-3", "40")} {
			for _, other := range blanksAway(s) {
				if other != s {
					refusesIns(t, other)
				}
			}
		}
	}
	for _, s := range []string{
		"r1 = [ 2]", "r1 = [2 ]", "r1 = [ 2 ]", "[ 1] = r2", "[1 ] = r2", "[1]= r2", "[1] =r2", "r1 = cas[2] r3 r4", "r1 = cas [ 2] r3 r4", "r1 = cas [2 ] r3 r4", "r1 = cas [2]r3 r4",
		"r1 = [2+ r3 % 4]", "r1 = [2 +r3 % 4]", "r1 = [2 + r3% 4]", "r1 = [2 + r3 %4]", "r1 = [2+r3%4]", "r1 = [ 2 + r3 % 4]", "r1 = [2  + r3 % 4]", "r1 = [2 +  r3 % 4]", "r1 = [2 + r3  % 4]", "r1 = [2 + r3 %  4]", "r1 = [2 + r3 % 4 ]",
		"[1+ r2 % 3] = r4", "[1 +r2 % 3] = r4", "[1 + r2% 3] = r4", "[1 + r2 %3] = r4", "[ 1 + r2 % 3] = r4", "[1 + r2 % 3 ] = r4", "[1  + r2 % 3] = r4", "[1 +  r2 % 3] = r4", "[1 + r2  % 3] = r4", "[1 + r2 %  3] = r4", "[1 + r 2 % 3] = r4",
	} {
		refusesIns(t, s)
	}
}

func TestReadInsLetters(t *testing.T) {
	for _, x := range insShapes {
		s := x.textOf("1", "2", "3", "4")
		refusesIns(t, strings.ToUpper(s))
		for at := range len(s) {
			if upper := s[:at] + strings.ToUpper(s[at:at+1]) + s[at+1:]; upper != s {
				refusesIns(t, upper)
			}
		}
		// The letters that stand for numbers in the document are none of a text.
		if x.fields != "" {
			refusesIns(t, x.textOf("R", "A", "B", "X"))
			refusesIns(t, x.text)
		}
	}
	for _, s := range []string{"rR = N", "rR = rA", "rR = [X]", "[X] = rA", "goto N", "if rA == 0 goto N", "FENCE", "Fence", "R1 = 2", "r1 = R2"} {
		refusesIns(t, s)
	}
}

func TestReadInsWords(t *testing.T) {
	refusesIns(t, "")
	for _, x := range insShapes {
		words := strings.Split(x.textOf("1", "2", "3", "4"), " ")
		for at := range words {
			fewer := slices.Delete(slices.Clone(words), at, at+1)
			refusesIns(t, strings.Join(fewer, " "))
			for _, word := range append([]string{"1", "r1", "fence", "=", "==", "+", "[1]"}, words...) {
				refusesIns(t, strings.Join(slices.Insert(slices.Clone(words), at, word), " "))
				refusesIns(t, strings.Join(append(slices.Clone(words), word), " "))
			}
		}
	}
	// Without its last two words this is the text of another one.
	wantReadIns(t, "r1 = r2 - r3", insSub(1, 2, 3))
	wantReadIns(t, "r1 = r2", impl.Ins{Op: impl.InMov, R: 1, A: 2})
	for _, s := range []string{
		"r1", "r1 =", "r1 = ", "= 1", "r = 1", "1 = r1", "1 = 1", "r1 = r", "r1 = - r2", "r1 = r2 +", "r1 = r2 + 3", "r1 = 2 + r3", "r1 = r2 * r3", "r1 = r2 = r3", "r1 = r2 > r3", "r1 = r2 <= r3", "r1 = r2 != r3", "r1 == r2",
		"[1] = 2", "[1] = [2]", "[r1] = r2", "r1 = [r2]", "r1 = [2", "r1 = 2]", "r1 = []", "r1 = [[2]]", "r1 = (2)", "[1 = r2", "1] = r2",
		"r1 = [2 + r3]", "r1 = [2 + 3 % 4]", "r1 = [2 + r3 % r4]", "r1 = [2 - r3 % 4]", "r1 = [r3 % 4]", "r1 = [r2 + r3 % 4]", "[1 + r2 % 3] = 4", "[1 + r2] = r4", "[1 + r2 % 3]",
		"r1 = cas [2] r3", "r1 = cas [2] r3 4", "r1 = cas 2 r3 r4", "cas [2] r3 r4", "r1 = cas [2 + r3 % 4] r3 r4", "fence 1", "fences", "fenc", "r1 = fence",
		"if r1 == 1 goto 2", "if r1 == -0 goto 2", "if r1 == 00 goto 2", "if r1 = 0 goto 2", "if r1 != 0 goto 2", "if 1 == 0 goto 2", "if r1 == 0 goto", "if r1 == 0", "if r1 goto 2", "r1 == 0 goto 2", "if r1 == 0 goto r2", "goto", "goto r1", "goto 1 2", "go to 1", "init 0", "thread",
	} {
		refusesIns(t, s)
	}
}

// Each byte of a text counts.
func TestReadInsOneByteAway(t *testing.T) {
	every := allBytes()
	some := 0
	for _, x := range insShapes {
		for _, s := range oneByteAway(x.textOf("1", "2", "3", "4"), every) {
			if checkIns(t, s) {
				some++
			}
		}
		for _, s := range oneByteAway(x.textOf("-10", "9223372036854775807", "0", "21"), textBytes) {
			if checkIns(t, s) {
				some++
			}
		}
	}
	if some < 300 {
		t.Errorf("only %d of them are instructions", some)
	}
}

// pieces are what texts are made of.
var pieces = []string{"r", "-", "0", "1", "2", "12", " ", " ", " = ", " == ", " + ", " - ", " < ", " % ", "[", "]", "] = r", "r1", "r2 ", "r3 = ", "= ", "fence", "goto ", "if r", " == 0 goto ", "cas [", "] r", "9223372036854775807", "R", "\n", "\xff"}

func TestReadInsOfPieces(t *testing.T) {
	r := rand.New(rand.NewSource(10))
	some := 0
	for range 100000 {
		s := ""
		for range 1 + r.Intn(6) {
			s += pieces[r.Intn(len(pieces))]
		}
		if checkIns(t, s) {
			some++
		}
	}
	if some < 500 {
		t.Errorf("only %d of them are instructions", some)
	}
}

func TestReadInsAnyBytes(t *testing.T) {
	r := rand.New(rand.NewSource(20))
	for range 50000 {
		s := make([]byte, r.Intn(70))
		for k := range s {
			s[k] = byte(r.Intn(256))
			if r.Intn(4) > 0 {
				s[k] = textBytes[r.Intn(len(textBytes))]
			}
		}
		checkIns(t, string(s))
	}
	for _, n := range []int{61, 100, 100000} {
		for _, b := range []string{"0", "1", "-", " ", "r", "[", "\n", "\x00", "\xff", "fence"} {
			refusesIns(t, strings.Repeat(b, n))
			refusesIns(t, "r1 = "+strings.Repeat(b, n))
			refusesIns(t, "goto "+strings.Repeat(b, n))
		}
	}
}
