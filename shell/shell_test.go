package shell

import (
	"strconv"
	"strings"
	"testing"

	"rick/api"
	"rick/disk"
	"rick/store"
)

// wantRun runs lines, each with what should be told of it.
func wantRun(t *testing.T, lines ...[2]string) {
	t.Helper()
	var text, want strings.Builder
	for _, l := range lines {
		text.WriteString(l[0] + "\n")
		want.WriteString(l[1] + "\n")
	}
	if got := Run(text.String()); got != want.String() {
		wantSame(t, lines, strings.Split(got, "\n"))
	}
}

// wantSame tells which lines were answered in another way.
func wantSame(t *testing.T, lines [][2]string, got []string) {
	t.Helper()
	if len(got) != len(lines)+1 {
		t.Errorf("%d lines are told of %d", len(got)-1, len(lines))
	}
	for i := range min(len(got), len(lines)) {
		if got[i] != lines[i][1] {
			t.Errorf("line %d %q: %q, not %q", i+1, lines[i][0], got[i], lines[i][1])
		}
	}
}

// wantDo has a place do a line.
func wantDo(t *testing.T, p *place, line, want string) {
	t.Helper()
	if got := p.do(line); got != want {
		t.Errorf("%q: %q, not %q", line, got, want)
	}
}

// pairs is n pairs of a time and a value, one of which is behind the other by so much.
func pairs(n int, at, step int64, val func(i int) int64) string {
	var b strings.Builder
	for i := range n {
		b.WriteString(" " + strconv.FormatInt(at+int64(i)*step, 10) + " " + strconv.FormatInt(val(i), 10))
	}
	return b.String()
}

func zero(int) int64 { return 0 }

// P20.1: the chapter's example.
func TestExample(t *testing.T) {
	if got := Run("put 7 6 1 5 3 5\nget 7 2 9\n"); got != "ok\n3=5\n" {
		t.Errorf("%q", got)
	}
}

// P20.1: each line end ends a line; behind the last one there is none, if no sign is there.
func TestLines(t *testing.T) {
	for text, want := range map[string]string{
		"":                         "",
		"\n":                       "?\n",
		"\n\n":                     "?\n?\n",
		"check":                    "sound\n",
		"check\n":                  "sound\n",
		"check\n\n":                "sound\n?\n",
		"\ncheck":                  "?\nsound\n",
		"check\ncheck":             "sound\nsound\n",
		"check\n\n\ncheck\n":       "sound\n?\n?\nsound\n",
		"check\ncheck\n ":          "sound\nsound\n?\n",
		"check\r\n":                "?\n",
		"check\rcheck":             "?\n",
		"\r\n":                     "?\n",
		"check\x00\n":              "?\n",
		"check\u2028check":         "?\n",
		"check\vcheck\fcheck\x85":  "?\n",
		"check\\ncheck":            "?\n",
		"\xff\xfe\ncheck\n\xc3":    "?\nsound\n?\n",
		"\ufeffcheck\ncheck":       "?\nsound\n",
		strings.Repeat("\n", 5000): strings.Repeat("?\n", 5000),
	} {
		if got := Run(text); got != want {
			t.Errorf("%q: %q, not %q", text, got, want)
		}
	}
}

// P20.1: words are parted by one blank, and by nothing else.
func TestBlanks(t *testing.T) {
	for _, line := range []string{"put 7 6 1 5 3 5", "get 7 2 9", "drop 7 3 3", "lay 7 0", "join 7 2 0", "stat", "crash", "check"} {
		for _, wrong := range []string{
			" " + line,
			line + " ",
			line + "  ",
			"\t" + line,
			line + "\t",
			line + "\r",
			line + ".",
			line + " x",
			line + " 1 ",
			line + "  1",
			strings.ToUpper(line),
			strings.ToUpper(line[:1]) + line[1:],
			line[1:],
			"x" + line,
			"\x00" + line,
		} {
			wantRun(t, [2]string{wrong, unknown})
		}
		for i, c := range line {
			if c != ' ' {
				continue
			}
			for _, sign := range []string{"", "  ", "\t", "\u00a0", ",", " \t", "\x00"} {
				wantRun(t, [2]string{"put 7 6 1 5 3 5", "ok"}, [2]string{line[:i] + sign + line[i+1:], unknown}, [2]string{"get 7 0 9", "1=5 3=5"})
			}
		}
	}
}

// P20.1: of each first word just the lines with as many NUMBERS are known.
func TestCounts(t *testing.T) {
	for word, known := range map[string]func(n int) bool{
		"put":    func(n int) bool { return n >= 4 && n%2 == 0 },
		"get":    func(n int) bool { return n == 3 },
		"drop":   func(n int) bool { return n == 3 },
		"lay":    func(n int) bool { return n == 2 },
		"join":   func(n int) bool { return n == 3 },
		"stat":   func(n int) bool { return n == 0 },
		"crash":  func(n int) bool { return n == 0 },
		"check":  func(n int) bool { return n == 0 },
		"":       func(int) bool { return false },
		"puts":   func(int) bool { return false },
		"pu":     func(int) bool { return false },
		"query":  func(int) bool { return false },
		"append": func(int) bool { return false },
		"5":      func(int) bool { return false },
	} {
		for n := range 30 {
			line := word
			for i := range n {
				line += " " + strconv.Itoa(i+1)
			}
			if got := formatted().do(line); (got != unknown) != known(n) {
				t.Errorf("%q: %q", line, got)
			}
		}
	}
}

// P20.1: one to eighteen digits, and perhaps a - ahead.
func TestNumbers(t *testing.T) {
	for _, word := range []string{"0", "1", "-1", "9", "-9", "10", "-10", "100", "-505", "999999999999999999", "-999999999999999999", "100000000000000000", "-100000000000000000", "4294967295", "9007199254740993"} {
		// As a time each may be told again.
		wantRun(t,
			[2]string{"put 7 6 " + word + " 5", "ok"},
			[2]string{"get 7 " + word + " " + word, word + "=5"},
			[2]string{"drop 7 " + word + " " + word, "ok"},
			[2]string{"get 7 " + word + " " + word, "nothing"},
		)
	}
}

// P20.1: what isn't a NUMBER isn't one wherever it stands.
func TestNoNumbers(t *testing.T) {
	for _, word := range []string{
		"", "-", "--1", "-0", "+0", "+1", "-+1", "+-1", "00", "01", "-01", "-00", "007", "1-", "1-1",
		"1000000000000000000", "-1000000000000000000", "0000000000000000001", "9223372036854775807", "-9223372036854775808",
		"18446744073709551615", "9999999999999999999", "000000000000000001", strings.Repeat("9", 400), strings.Repeat("0", 400), "-" + strings.Repeat("1", 40),
		"1.0", "1.", ".5", "1e3", "0x1", "0b1", "0o7", "1_0", "x", "1x", "x1", "a", "F", "nan", "inf", "-inf", "true",
		"\u0661", "\uff11", "\u22121", "1\x00", "1\xff", "\r", "1\r", "'1'", "1=5", "1,5",
	} {
		for _, line := range []string{
			"put N 6 5 5", "put 7 N 5 5", "put 7 6 N 5", "put 7 6 5 N", "put 7 6 5 5 N 5", "put 7 6 5 5 6 N", "put 7 6 5 5 N",
			"get N 2 9", "get 7 N 9", "get 7 2 N", "drop N 2 9", "drop 7 N 9", "drop 7 2 N",
			"lay N 0", "lay 7 N", "join N 2 0", "join 7 N 0", "join 7 2 N", "stat N", "crash N", "check N", "N",
		} {
			line = strings.ReplaceAll(line, "N", word)
			wantRun(t, [2]string{"put 7 6 1 5 3 5", "ok"}, [2]string{line, unknown}, [2]string{"get 7 0 9", "1=5 3=5"})
		}
	}
}

// P20.1: a value is from 0 on; a time may be any NUMBER.
func TestPut(t *testing.T) {
	wantRun(t,
		[2]string{"put 7 6 1 -1", "?"},
		[2]string{"put 7 6 1 5 2 -5", "?"},
		[2]string{"put 7 6 1 -5 2 5", "?"},
		[2]string{"put -7 99 1 -5", "?"},
		[2]string{"get 7 0 9", "nothing"},
		[2]string{"put 7 6 1 0", "ok"},
		[2]string{"put 7 5 -999999999999999999 999999999999999999 -5 1 0 999999999999999999", "ok"},
		[2]string{"put 7 15 2 3 999999999999999999 999999999999999999", "ok"},
		[2]string{"get 7 -999999999999999999 999999999999999999", "-999999999999999999=999999999999999999 -5=1 0=999999999999999999 1=0 2=3 999999999999999999=999999999999999999"},
		[2]string{"put 4294967295 0 5 6", "ok"},
		[2]string{"put 0 0 5 7", "ok"},
		[2]string{"get 4294967295 5 5", "5=6"},
		[2]string{"get 0 5 5", "5=7"},
		[2]string{"stat", "series 3 chunks 5 samples 8 free 55"},
		[2]string{"check", "sound"},
	)
}

// P20.1: all codecs, of the samples of 200, the most that a chunk may have.
func TestCodecs(t *testing.T) {
	want := "0=0"
	for i := 1; i < 200; i++ {
		want += " " + strconv.Itoa(i*3) + "=" + strconv.Itoa(i%7)
	}
	put := pairs(200, 0, 3, func(i int) int64 { return int64(i % 7) })
	for codec := range 16 {
		wantRun(t,
			[2]string{"put 7 " + strconv.Itoa(codec) + put, "ok"},
			[2]string{"get 7 0 597", want},
			[2]string{"put 7 " + strconv.Itoa(codec) + " 597 1", "error 9"},
			[2]string{"put 7 " + strconv.Itoa(codec) + " 598 1", "ok"},
			[2]string{"get 7 0 597", want},
			[2]string{"get 7 597 598", "597=3 598=1"},
			[2]string{"crash", "ok"},
			[2]string{"get 7 0 597", want},
			[2]string{"check", "sound"},
		)
	}
}

// P20.1: the errors' numbers, as Append, Query, Delete, Recompress and Compact tell them.
func TestErrors(t *testing.T) {
	wantRun(t,
		[2]string{"put 7 6 1 5 3 5", "ok"},
		[2]string{"put -1 6 5 5", "error 1"},
		[2]string{"put 4294967296 6 5 5", "error 1"},
		[2]string{"put 999999999999999999 6 5 5", "error 1"},
		[2]string{"put -999999999999999999 6 5 5", "error 1"},
		[2]string{"put 7 -1 5 5", "error 1"},
		[2]string{"put 7 16 5 5", "error 1"},
		[2]string{"put 7 16 5 5 5 5", "error 1"},
		[2]string{"put 7 999999999999999999 5 5", "error 1"},
		[2]string{"put 7 6" + pairs(201, 5, 1, zero), "error 6"},
		[2]string{"put 7 6" + pairs(201, 5, 0, zero), "error 6"},
		[2]string{"put 7 6" + pairs(5000, 5, 1, zero), "error 6"},
		[2]string{"put 7 16" + pairs(201, 5, 1, zero), "error 1"},
		[2]string{"put 7 6 5 5 5 5", "error 8"},
		[2]string{"put 7 6 5 5 4 5", "error 8"},
		[2]string{"put 7 6 3 5 3 5", "error 8"},
		[2]string{"put 7 6 3 5", "error 9"},
		[2]string{"put 7 6 2 5", "error 9"},
		[2]string{"put 7 6 1 5", "error 9"},
		[2]string{"put 7 6 0 5 9 5", "error 9"},
		[2]string{"put 7 6 -5 5 1 5", "error 9"},
		[2]string{"get -1 0 9", "error 1"},
		[2]string{"get 4294967296 0 9", "error 1"},
		[2]string{"get -1 9 0", "error 1"},
		[2]string{"get 7 9 0", "error 7"},
		[2]string{"get 7 3 2", "error 7"},
		[2]string{"get 8 3 2", "error 7"},
		[2]string{"drop -1 0 9", "error 1"},
		[2]string{"drop 4294967296 0 9", "error 1"},
		[2]string{"drop -1 9 0", "error 1"},
		[2]string{"drop 7 9 0", "error 7"},
		[2]string{"drop 8 9 0", "error 7"},
		[2]string{"drop 7 2 2", "error 10"},
		[2]string{"drop 7 4 9", "error 10"},
		[2]string{"drop 8 0 9", "error 10"},
		[2]string{"lay -1 0", "error 1"},
		[2]string{"lay 4294967296 0", "error 1"},
		[2]string{"lay 7 -2", "error 1"},
		[2]string{"lay 7 16", "error 1"},
		[2]string{"lay 8 16", "error 1"},
		[2]string{"lay 8 0", "error 10"},
		[2]string{"lay 8 -1", "error 10"},
		[2]string{"join -1 9 0", "error 1"},
		[2]string{"join 4294967296 9 0", "error 1"},
		[2]string{"join 7 0 0", "error 1"},
		[2]string{"join 7 -1 0", "error 1"},
		[2]string{"join 7 201 0", "error 1"},
		[2]string{"join 7 9 -2", "error 1"},
		[2]string{"join 7 9 16", "error 1"},
		[2]string{"join 8 201 0", "error 1"},
		[2]string{"join 8 9 0", "error 10"},
		[2]string{"get 7 -999999999999999999 999999999999999999", "1=5 3=5"},
		[2]string{"stat", "series 1 chunks 1 samples 2 free 59"},
		[2]string{"check", "sound"},
	)
}

// P20.1: from and to are within.
func TestGet(t *testing.T) {
	wantRun(t,
		[2]string{"get 7 0 9", "nothing"},
		[2]string{"put 7 6 1 10 3 30 5 50", "ok"},
		[2]string{"put 7 1 -3 70 -1 90", "ok"},
		[2]string{"put 8 0 2 1", "ok"},
		[2]string{"get 7 -9 9", "-3=70 -1=90 1=10 3=30 5=50"},
		[2]string{"get 7 -1 3", "-1=90 1=10 3=30"},
		[2]string{"get 7 -2 2", "-1=90 1=10"},
		[2]string{"get 7 1 1", "1=10"},
		[2]string{"get 7 2 2", "nothing"},
		[2]string{"get 7 5 6", "5=50"},
		[2]string{"get 7 6 999999999999999999", "nothing"},
		[2]string{"get 7 -999999999999999999 -4", "nothing"},
		[2]string{"get 8 -9 9", "2=1"},
		[2]string{"get 9 -9 9", "nothing"},
	)
}

// P20.1: drop parts a chunk, whose parts keep its codec.
func TestDrop(t *testing.T) {
	wantRun(t,
		[2]string{"put 7 6 1 10 3 30 5 50 7 70", "ok"},
		[2]string{"put 8 6 3 30", "ok"},
		[2]string{"drop 7 2 5", "ok"},
		[2]string{"get 7 0 9", "1=10 7=70"},
		[2]string{"stat", "series 2 chunks 3 samples 3 free 57"},
		[2]string{"drop 7 2 6", "error 10"},
		[2]string{"put 7 3 2 9 6 9", "ok"},
		[2]string{"drop 7 6 9", "ok"},
		[2]string{"get 7 0 9", "1=10 2=9"},
		[2]string{"drop 7 -9 9", "ok"},
		[2]string{"get 7 0 9", "nothing"},
		[2]string{"get 8 0 9", "3=30"},
		[2]string{"drop 8 3 3", "ok"},
		[2]string{"stat", "series 0 chunks 0 samples 0 free 61"},
		[2]string{"check", "sound"},
	)
}

// P20.1: what is laid by another codec takes as many pages as that one needs.
func TestLay(t *testing.T) {
	// By codec 0 a chunk of 200 samples has 3203 bytes, by the best one a few.
	wantRun(t,
		[2]string{"put 7 0" + pairs(200, 0, 1, zero), "ok"},
		[2]string{"put 8 0 1 1", "ok"},
		[2]string{"stat", "series 2 chunks 2 samples 201 free 46"},
		[2]string{"lay 7 -1", "ok"},
		[2]string{"stat", "series 2 chunks 2 samples 201 free 58"},
		[2]string{"lay 7 0", "ok"},
		[2]string{"stat", "series 2 chunks 2 samples 201 free 46"},
		[2]string{"lay 7 4", "ok"}, // times by differences: 1803 bytes
		[2]string{"stat", "series 2 chunks 2 samples 201 free 51"},
		[2]string{"get 7 198 900", "198=0 199=0"},
		[2]string{"get 8 0 9", "1=1"},
		[2]string{"check", "sound"},
	)
}

// P20.1: join puts chunks together, up to so many samples, by that codec.
func TestJoin(t *testing.T) {
	wantRun(t,
		[2]string{"put 7 0 1 1", "ok"},
		[2]string{"put 7 1 2 2", "ok"},
		[2]string{"put 7 2 3 3 4 4", "ok"},
		[2]string{"put 8 3 1 1", "ok"},
		[2]string{"join 7 2 0", "ok"},
		[2]string{"stat", "series 2 chunks 3 samples 5 free 57"},
		[2]string{"get 7 0 9", "1=1 2=2 3=3 4=4"},
		[2]string{"join 7 1 15", "ok"},
		[2]string{"stat", "series 2 chunks 3 samples 5 free 57"},
		[2]string{"join 7 200 -1", "ok"},
		[2]string{"stat", "series 2 chunks 2 samples 5 free 58"},
		[2]string{"get 7 2 3", "2=2 3=3"},
		[2]string{"put 7 0" + pairs(196, 5, 1, zero), "ok"},
		[2]string{"stat", "series 2 chunks 3 samples 201 free 45"},
		[2]string{"join 7 199 -1", "ok"},
		[2]string{"stat", "series 2 chunks 3 samples 201 free 57"},
		[2]string{"join 7 200 0", "ok"},
		[2]string{"stat", "series 2 chunks 2 samples 201 free 46"},
		[2]string{"check", "sound"},
	)
}

// P20.1: lay and join give each chunk the codec that they are told, not another one.
func TestLaidBy(t *testing.T) {
	for codec := range 16 {
		for _, line := range []string{"lay 7 ", "join 7 200 "} {
			p := formatted()
			wantDo(t, p, "put 7 3 1 5 3 5", "ok")
			wantDo(t, p, line+strconv.Itoa(codec), "ok")
			if _, codecs, e := p.s.Chunks(7); e != api.OK || len(codecs) != 1 || codecs[0] != codec {
				t.Errorf("%s%d: %v, %d", line, codec, codecs, e)
			}
		}
	}
}

// P20.1: a disk without room tells ErrFull, changes nothing, and has room again when something goes.
func TestFull(t *testing.T) {
	// Of 61 pages three such chunks and twelve pages more take 51, four 64: there may be room for the fourth, but for no fifth.
	big := func(i int) string { return pairs(200, int64(1000*i), 1, zero) }
	p := formatted()
	n := 0
	for p.do("put 7 0"+big(n)) == "ok" {
		n++
	}
	if n < 3 || n > 4 {
		t.Fatalf("%d chunks of 13 pages on 64", n)
	}
	stat := p.do("stat")
	all := p.do("get 7 0 9999")
	for range 3 {
		wantDo(t, p, "put 7 0"+big(n), "error 5")
		wantDo(t, p, "stat", stat)
		wantDo(t, p, "get 7 0 9999", all)
		wantDo(t, p, "check", "sound")
	}
	wantDo(t, p, "crash", "ok")
	wantDo(t, p, "stat", stat)
	wantDo(t, p, "get 7 0 9999", all)
	wantDo(t, p, "put 7 0"+big(n), "error 5")
	wantDo(t, p, "put 7 -1"+big(n), "error 1")
	wantDo(t, p, "put 7 0"+big(0), "error 9")
	wantDo(t, p, "drop 7 0 999", "ok")
	wantDo(t, p, "put 7 0"+big(n), "ok")
	wantDo(t, p, "drop 7 0 9999", "ok")
	wantDo(t, p, "stat", "series 0 chunks 0 samples 0 free 61")
	wantDo(t, p, "check", "sound")
}

// P20.1: behind a crash all is there that was told to be ok, and nothing that waits.
func TestCrash(t *testing.T) {
	wantRun(t,
		[2]string{"crash", "ok"},
		[2]string{"stat", "series 0 chunks 0 samples 0 free 61"},
		[2]string{"put 7 6 1 5 3 5", "ok"},
		[2]string{"crash", "ok"},
		[2]string{"crash", "ok"},
		[2]string{"get 7 0 9", "1=5 3=5"},
		[2]string{"put 7 6 3 5", "error 9"},
		[2]string{"drop 7 1 1", "ok"},
		[2]string{"crash", "ok"},
		[2]string{"get 7 0 9", "3=5"},
		[2]string{"stat", "series 1 chunks 1 samples 1 free 59"},
		[2]string{"check", "sound"},
	)
	p := formatted()
	wantDo(t, p, "put 7 6 1 5", "ok")
	image := string(p.d.Image())
	p.d.Write(5, make([]byte, api.SectorSize))
	p.d.Write(20, make([]byte, api.SectorSize))
	wantDo(t, p, "crash", "ok")
	if p.d.Waiting() != 0 || string(p.d.Image()) != image {
		t.Error("what waited is kept, or waits")
	}
	wantDo(t, p, "get 7 0 9", "1=5")
}

// P20.1: when power is gone all but crash and check tell ErrStop; crash brings it back.
func TestPowerGone(t *testing.T) {
	for steps := range 40 {
		p := formatted()
		wantDo(t, p, "put 7 6 1 5", "ok")
		p.d.Fail(steps)
		got := p.do("put 7 6 3 5")
		if p.d.On() {
			// More steps than a put has.
			if got != "ok" {
				t.Fatalf("with power: %q", got)
			}
			return
		}
		if got != "error 2" {
			t.Fatalf("step %d: %q", steps, got)
		}
		for _, line := range []string{"put 7 6 3 5", "get 7 0 9", "drop 7 0 9", "lay 7 0", "join 7 9 0", "stat"} {
			wantDo(t, p, line, "error 2")
		}
		wantDo(t, p, "check", "sound")
		wantDo(t, p, "crash", "ok")
		wantDo(t, p, "check", "sound")
		wantDo(t, p, "get 7 0 9", "1=5")
		wantDo(t, p, "put 7 6 3 5", "ok")
		wantDo(t, p, "get 7 0 9", "1=5 3=5")
	}
	t.Error("power is never there up to the end")
}

// P20.1: the disk has 64 pages, and each Run begins with one of its own.
func TestEachRun(t *testing.T) {
	for range 3 {
		wantRun(t,
			[2]string{"stat", "series 0 chunks 0 samples 0 free 61"},
			[2]string{"get 7 0 9", "nothing"},
			[2]string{"put 7 6 1 5", "ok"},
			[2]string{"stat", "series 1 chunks 1 samples 1 free 59"},
		)
	}
	if n := formatted().d.Pages(); n != 64 {
		t.Error(n)
	}
}

// damaged is a place on a disk on which a series 7 was put, of which a page's byte was turned: its chunk stands in page 3, its leaf in 4, the bitmap in 5.
func damaged(t *testing.T, pages ...int) *place {
	t.Helper()
	p := formatted()
	wantDo(t, p, "put 7 6 1 5", "ok")
	image := p.d.Image()
	for _, page := range pages {
		image[page*api.PageSize+4] ^= 1
	}
	d, e := disk.Load(image)
	if e != api.OK {
		t.Fatal(e)
	}
	// The Store stays on the sound disk: Open may tell an error of this one.
	return &place{d: d, s: p.s}
}

// P20.1: check tells each defect, rising, parted by blanks.
func TestCheck(t *testing.T) {
	for _, c := range []struct {
		pages []int
		told  string
	}{
		{nil, "sound"},
		{[]int{40}, "sound"},
		{[]int{3}, "5@3"},
		{[]int{4}, "3@4 8@3"},
		{[]int{3, 4}, "3@4 8@3"},
		{[]int{5}, "2@5"},
		{[]int{0, 1}, "1@0"},
	} {
		wantDo(t, damaged(t, c.pages...), "check", c.told)
	}
}

// P20.1: what a damaged disk tells is told.
func TestDamaged(t *testing.T) {
	p := damaged(t, 4)
	wantDo(t, p, "crash", "ok")
	for _, line := range []string{"put 7 6 3 5", "get 7 0 9", "drop 7 0 9", "lay 7 0", "join 7 9 0", "stat"} {
		wantDo(t, p, line, "error 3")
	}
	wantDo(t, damaged(t, 0, 1), "crash", "error 3")
	p = damaged(t)
	p.s, _ = store.Open(p.d)
	wantDo(t, p, "get 7 0 9", "1=5")
}
