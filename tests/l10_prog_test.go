package tests

import (
	"math/rand"
	"slices"
	"strings"
	"testing"

	"loop.example/g00713/impl"
)

// crossedText is the text of crossed.
const crossedText = "init 0 0\nthread\nr1 = 1\n[0] = r1\nr0 = [1]\nthread\nr1 = 1\n[1] = r1\nr0 = [0]\n"

func TestProgTextWrittenOut(t *testing.T) {
	for _, x := range []struct {
		p    impl.Prog
		want string
	}{
		{progOf([]int{0}, row()), "init 0\nthread\n"},
		{progOf([]int{-5, 10, 0}, row(), row(), row()), "init -5 10 0\nthread\nthread\nthread\n"},
		{progOf([]int{maxInt, minInt}, row(insFence)), "init 9223372036854775807 -9223372036854775808\nthread\nfence\n"},
		{progOf([]int{7}, row(), row(insFence), row()), "init 7\nthread\nthread\nfence\nthread\n"},
		{progOf([]int{0}, row(insSet(0, minInt), insSet(5, maxInt), insSet(1, -1))), "init 0\nthread\nr0 = -9223372036854775808\nr5 = 9223372036854775807\nr1 = -1\n"},
		{crossed(), crossedText},
		{crossed(insFence), strings.ReplaceAll(crossedText, "r0", "fence\nr0")},
		{sample(), "init 7 -3 0 -9223372036854775808\nthread\nr1 = 2\nr1 = r2\nr1 = r2 + r1\nr1 = r2 - r1\nr1 = r2 < r1\nr1 = r2 == r1\nr1 = [2]\n[2] = r1\nr1 = [1 + r2 % 2]\n[1 + r1 % 2] = r2\nr1 = cas [2] r2 r1\nfence\nif r1 == 0 goto 13\ngoto 14\nthread\nthread\nfence\nfence\n"},
	} {
		wantProgText(t, x.p, x.want)
		wantReadProg(t, x.want, x.p)
	}
}

func TestProgTextNoProg(t *testing.T) {
	for _, p := range append(badProgs(), oddProgs()[1:]...) {
		if impl.ProgOk(p) {
			t.Fatalf("a program: %+v", p)
		}
		wantProgText(t, p, "")
		refusesProg(t, progByRule(p))
	}
	// Behind a change of each number that makes it none.
	p := sample()
	for k := range p.T {
		for at := range p.T[k].L {
			for _, field := range "RABXN" {
				for _, value := range append([]int{6, 9}, farInts...) {
					q := copyProg(p)
					q.T[k].L[at] = set(q.T[k].L[at], field, value)
					if impl.ProgOk(q) {
						wantReadProg(t, progByRule(q), q)
						continue
					}
					wantProgText(t, q, "")
					// What is not written is not read.
					if unread, ok := impl.ReadProg(progByRule(q)); ok && !sameValue(unread, p) {
						t.Errorf("%q is %+v", progByRule(q), unread)
					}
				}
			}
		}
	}
}

// wantLimit holds a program that is at a limit, or passes it, against its text.
func wantLimit(t *testing.T, p impl.Prog, ok bool) {
	t.Helper()
	if ok {
		wantProgText(t, p, progByRule(p))
		wantReadProg(t, progByRule(p), p)
	} else {
		wantProgText(t, p, "")
		refusesProg(t, progByRule(p))
	}
}

func TestProgTextLimits(t *testing.T) {
	for cells := range 2 * impl.MaxCells {
		wantLimit(t, progOf(make([]int, cells), row(insFence)), 1 <= cells && cells <= impl.MaxCells)
		wantLimit(t, progOf(slices.Repeat([]int{minInt}, cells), row()), 1 <= cells && cells <= impl.MaxCells)
	}
	for threads := range 2 * impl.MaxThreads {
		wantLimit(t, progOf([]int{0}, make([]impl.Thread, threads)...), 1 <= threads && threads <= impl.MaxThreads)
		wantLimit(t, progOf([]int{0}, slices.Repeat([]impl.Thread{row(insFence)}, threads)...), 1 <= threads && threads <= impl.MaxThreads)
	}
	for k := range impl.MaxThreads {
		for n := range 2 * impl.MaxIns {
			p := progOf([]int{0}, make([]impl.Thread, impl.MaxThreads)...)
			p.T[k] = fences(n)
			wantLimit(t, p, n <= impl.MaxIns)
		}
	}
	longest := slices.Repeat(ins(insSet(5, minInt)), impl.MaxIns)
	wantLimit(t, progOf(slices.Repeat([]int{minInt}, impl.MaxCells), row(longest...), row(longest...), row(longest...)), true)
	refusesProg(t, "init"+strings.Repeat(" 0", 100000)+"\nthread\n")
	refusesProg(t, "init 0\n"+strings.Repeat("thread\n", 100000))
	refusesProg(t, "init 0\nthread\n"+strings.Repeat("fence\n", 100000))
}

// A jump is read by where it stands, a cell by how many there are.
func TestReadProgInsThatMayNotStand(t *testing.T) {
	for _, line := range []string{
		"r6 = 1", "r-1 = 1", "r0 = r6", "r0 = r1 + r6", "r0 = r-1 - r1", "r9223372036854775807 = r1 < r1", "r0 = r1 == r-9223372036854775808", "r0 = [2]", "r0 = [-1]", "[2] = r0", "[9223372036854775807] = r0", "[0] = r6",
		"r0 = [0 + r1 % 0]", "r0 = [0 + r1 % 3]", "r0 = [1 + r1 % 2]", "r0 = [2 + r1 % 1]", "r0 = [0 + r1 % -1]", "[0 + r1 % 0] = r0", "[1 + r1 % 2] = r0", "[0 + r1 % 9223372036854775807] = r0", "r0 = cas [2] r0 r0", "r0 = cas [0] r6 r0",
		"if r0 == 0 goto 0", "if r0 == 0 goto 1", "if r0 == 0 goto 4", "if r6 == 0 goto 2", "goto 1", "goto 0", "goto -1", "goto 4", "goto 9223372036854775807", "goto -9223372036854775808",
	} {
		if _, ok := impl.ReadIns(line); !ok {
			t.Fatalf("%q is no instruction", line)
		}
		refusesProg(t, linesOf("init 0 0", "thread", "fence", line, "fence"))
		refusesProg(t, linesOf("init 0 0", "thread", "thread", "fence", line, "fence"))
	}
	for _, line := range []string{"r5 = 9", "r0 = [1]", "[1] = r5", "r0 = [0 + r1 % 2]", "[1 + r1 % 1] = r0", "r0 = cas [1] r5 r5", "if r0 == 0 goto 2", "if r0 == 0 goto 3", "goto 2", "goto 3"} {
		if !checkProg(t, linesOf("init 0 0", "thread", "fence", line, "fence")) {
			t.Errorf("%q may not stand", line)
		}
	}
}

func TestReadProgLines(t *testing.T) {
	wantReadProg(t, crossedText, crossed())
	lines := strings.Split(strings.TrimSuffix(crossedText, "\n"), "\n")
	for _, s := range []string{
		"", "\n", "\n\n", "init", "init\n", "init \n", "init 0", "init 0\n", "thread", "thread\n", "fence\n", "bad\n", "init 0\n\n", "init 0\nthread", "init 0thread\n", "init 0 thread\n", "init\n0\nthread\n",
		// Lines that stand where they may not.
		"thread\ninit 0\n", "init 0\nfence\n", "init 0\nfence\nthread\n", "fence\ninit 0\nthread\n", "\ninit 0\nthread\n", "init 0\n\nthread\n", "init 0\nthread\n\n", "init 0\nthread\n\nthread\n", "init 0\nthread\ninit 0\n", "init 0\ninit 0\nthread\n", "init 0\nthread\ninit 0\nthread\n", "init 0\nthread\nfence\ninit 1\n", "init\ninit 0\nthread\n", "init\nthread\ninit 0\nthread\n",
		// Lines that are not as they should be.
		"init\nthread\n", "init \nthread\n", "init  0\nthread\n", "init 0 \nthread\n", " init 0\nthread\n", "init 0  1\nthread\n", "init\t0\nthread\n", "init0\nthread\n", "init -\nthread\n", "init a\nthread\n", "init 0 a\nthread\n", "init 0,1\nthread\n", "Init 0\nthread\n", "INIT 0\nthread\n", "inits 0\nthread\n", "init r0\nthread\n", "init N\nthread\n", "N 0\nthread\n", "fence\nthread\n", "0\nthread\n",
		"init 0\nthread \n", "init 0\n thread\n", "init 0\nthreads\n", "init 0\nthrea\n", "init 0\nThread\n", "init 0\nthread 0\n", "init 0\nthread\nfence \n", "init 0\nthread\n fence\n", "init 0\nthread\nfence fence\n", "init 0\nthread fence\n", "init 0\nthread\nfence thread\n",
		// No byte 10, one too many, or another one.
		"init 0\nthread\nfence", "init 0\nthread\nfence\n\n", "init 0\r\nthread\r\n", "init 0\nthread\r\n", "init 0\rthread\r", "init 0\nthread\n\r", "init 0\nthread\x00", "init 0\x00\nthread\n", "init 0\nthread\n ", "init 0\nthread\n\n\n", "init 0\vthread\n", "init 0\u2028thread\n", "\xef\xbb\xbfinit 0\nthread\n",
	} {
		refusesProg(t, s)
	}
	for at := range lines {
		less := slices.Delete(slices.Clone(lines), at, at+1)
		// The first line of all, and that of thread 0, may not be left out.
		if checkProg(t, linesOf(less...)) != (at > 1) {
			t.Errorf("without line %d", at)
		}
		refusesProg(t, strings.Join(lines[:at+1], "\n"))
		refusesProg(t, linesOf(slices.Insert(slices.Clone(lines), at, "")...))
		refusesProg(t, linesOf(slices.Insert(slices.Clone(lines), at, "init 0 0")...))
		refusesProg(t, linesOf(slices.Insert(slices.Clone(lines), at+1, "init 0 0")...))
		for _, line := range []string{"thread", "fence", "goto 4", " ", "fence ", "bad"} {
			checkProg(t, linesOf(slices.Insert(slices.Clone(lines), at+1, line)...))
		}
	}
	for n := range lines {
		// What is ahead of some line is a program, if it has a thread.
		if checkProg(t, linesOf(lines[:n]...)) != (n > 1) {
			t.Errorf("%d lines", n)
		}
	}
	refusesProg(t, crossedText+"\n")
	refusesProg(t, crossedText+crossedText)
	refusesProg(t, "\n"+crossedText)
	refusesProg(t, strings.TrimSuffix(crossedText, "\n"))
	for n := range crossedText {
		checkProg(t, crossedText[:n])
		checkProg(t, crossedText[n:])
	}
}

func TestReadProgInitNumbers(t *testing.T) {
	for _, n := range fieldNumbers {
		p := progOf([]int{n}, row())
		wantReadProg(t, progByRule(p), p)
		p.Init = []int{1, n, 2}
		wantReadProg(t, progByRule(p), p)
	}
	for _, word := range noNumbers {
		refusesProg(t, "init "+word+"\nthread\n")
		refusesProg(t, "init 1 "+word+" 2\nthread\n")
		refusesProg(t, "init 1 2 "+word+"\nthread\n")
	}
	// The numbers of an instruction are those of a program, too.
	for _, word := range noNumbers {
		if word != "r1" {
			refusesProg(t, "init 0\nthread\nr1 = "+word+"\n")
		}
	}
}

func TestReadProgOneByteAway(t *testing.T) {
	texts := []string{"init 0\nthread\n", crossedText, progByRule(sample()), "init -10 21\nthread\nif r5 == 0 goto 2\n[0 + r1 % 2] = r3\nthread\n", "init 12 3 0 -4 5 66\nthread\nthread\nr1 = -1\nthread\n"}
	some := 0
	for k, text := range texts {
		bytes := textBytes
		if k == 0 {
			bytes = allBytes()
		}
		for _, s := range oneByteAway(text, bytes) {
			if checkProg(t, s) {
				some++
			}
		}
	}
	if some < 500 {
		t.Errorf("only %d of them are programs", some)
	}
}

// randomLine is one that stands in texts, most often.
func randomLine(r *rand.Rand) string {
	switch r.Intn(12) {
	case 0:
		return ""
	case 1:
		return "init 0 1"
	case 2:
		return pieces[r.Intn(len(pieces))]
	case 3, 4, 5:
		return "thread"
	default:
		return insByRule(randomIns(r, r.Intn(4), 2, 6))
	}
}

func TestReadProgOfLines(t *testing.T) {
	r := rand.New(rand.NewSource(30))
	some := 0
	for range 20000 {
		lines := []string{"init 4 5"}
		if r.Intn(3) > 0 {
			lines = append(lines, "thread")
		}
		for range r.Intn(6) {
			lines = append(lines, randomLine(r))
		}
		s := linesOf(lines...)
		if r.Intn(9) == 0 {
			s = s[:len(s)-r.Intn(3)]
		}
		if checkProg(t, s) {
			some++
		}
	}
	if some < 2000 {
		t.Errorf("only %d of them are programs", some)
	}
}

func TestReadProgAnyBytes(t *testing.T) {
	r := rand.New(rand.NewSource(70))
	for k := range 20000 {
		s := make([]byte, r.Intn(60))
		for k := range s {
			s[k] = byte(r.Intn(256))
			if r.Intn(4) > 0 {
				s[k] = textBytes[r.Intn(len(textBytes))]
			}
		}
		// Alone, and behind what a program may begin with.
		text := []string{"", "init 0\n", "init 0\nthread\n", "init "}[k%4] + string(s)
		checkProg(t, text)
		wantReport(t, text, 9, reportByRule(text, 9))
	}
}
