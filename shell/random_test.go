package shell

import (
	"cmp"
	"maps"
	"math/rand/v2"
	"slices"
	"strconv"
	"strings"
	"testing"
)

// dot is a sample, as a line tells it.
type dot struct{ at, val int64 }

// model is of each series its chunks, rising: what should be there.
type model map[int][][]dot

// life is a place through many lines, and what should be there.
type life struct {
	t    *testing.T
	r    *rand.Rand
	p    *place
	has  model
	most int // how many samples a put has at most
	full int // how often there was no room
	text strings.Builder
	told strings.Builder
}

// do does a line, and writes down what was told, for a Run of all.
func (l *life) do(line string) string {
	got := l.p.do(line)
	l.text.WriteString(line + "\n")
	l.told.WriteString(got + "\n")
	return got
}

func (l *life) want(line, want string) {
	l.t.Helper()
	if got := l.do(line); got != want {
		l.t.Fatalf("%q: %q, not %q", line, got, want)
	}
}

// change does a line that should answer as told, or that there is no room; enough is how many pages free are room for it in any case.
func (l *life) change(line, told string, next [][]dot, series, enough int) {
	l.t.Helper()
	free := l.free()
	got := l.do(line)
	switch {
	case got == told && told == "ok":
		l.has[series] = next
		if len(next) == 0 {
			delete(l.has, series)
		}
	case got == "error 5" && told == "ok" && free < enough:
		l.full++
	case got != told:
		l.t.Fatalf("%q: %q, not %q, with %d pages free", line, got, told, free)
	}
}

// free is how many pages stat tells to be free.
func (l *life) free() int {
	words := strings.Split(l.p.do("stat"), " ")
	n, err := strconv.Atoi(words[len(words)-1])
	if err != nil {
		l.t.Fatal(words)
	}
	return n
}

func (l *life) put() {
	series, codec := l.r.IntN(3), l.r.IntN(16)
	var dots []dot
	at := int64(l.r.IntN(3000) - 1000)
	for range 1 + l.r.IntN(l.most) {
		dots = append(dots, dot{at, l.r.Int64N(1_000_000_000_000_000_000) >> l.r.IntN(60)})
		at += 1 + int64(l.r.IntN(9))
	}
	told := "ok"
	switch l.r.IntN(30) {
	case 0:
		codec, told = 16, "error 1"
	case 1:
		if dots, told = append(dots, dots[len(dots)-1]), "error 8"; len(dots) > 200 {
			told = "error 6"
		}
	}
	line := "put " + strconv.Itoa(series) + " " + strconv.Itoa(codec)
	for _, x := range dots {
		line += " " + strconv.FormatInt(x.at, 10) + " " + strconv.FormatInt(x.val, 10)
	}
	if told == "ok" && slices.ContainsFunc(l.has[series], func(c []dot) bool {
		return c[0].at <= dots[len(dots)-1].at && dots[0].at <= c[len(c)-1].at
	}) {
		told = "error 9"
	}
	next := append(slices.Clone(l.has[series]), dots)
	slices.SortFunc(next, func(a, b []dot) int { return cmp.Compare(a[0].at, b[0].at) })
	// Where a chunk takes more pages than one, those that are free may not stand side by side.
	enough := 1 + 12
	if l.most > 10 {
		enough = pages
	}
	l.change(line, told, next, series, enough)
}

// span is a range at random.
func (l *life) span() (int64, int64) {
	from := int64(l.r.IntN(3500) - 1200)
	return from, from + int64(l.r.IntN([]int{2, 60, 3000}[l.r.IntN(3)])) - int64(l.r.IntN(20)/19)
}

func spanned(word string, series int, from, to int64) string {
	return word + " " + strconv.Itoa(series) + " " + strconv.FormatInt(from, 10) + " " + strconv.FormatInt(to, 10)
}

func (l *life) drop() {
	series := l.r.IntN(3)
	from, to := l.span()
	var next [][]dot
	gone := 0
	for _, c := range l.has[series] {
		var ahead, behind []dot
		for _, x := range c {
			switch {
			case x.at < from:
				ahead = append(ahead, x)
			case x.at > to:
				behind = append(behind, x)
			}
		}
		if len(ahead)+len(behind) == len(c) {
			next = append(next, c)
			continue
		}
		gone++
		for _, rest := range [][]dot{ahead, behind} {
			if len(rest) > 0 {
				next = append(next, rest)
			}
		}
	}
	told := "ok"
	switch {
	case from > to:
		told = "error 7"
	case gone == 0:
		told = "error 10"
	}
	enough := 2 + 12
	if l.most > 10 {
		enough = pages
	}
	l.change(spanned("drop", series, from, to), told, next, series, enough)
}

// again lays a series anew, by lay or by join.
func (l *life) again() {
	series, codec := l.r.IntN(3), l.r.IntN(17)-1
	line, most := "lay "+strconv.Itoa(series), 1
	if l.r.IntN(2) == 0 {
		most = 1 + l.r.IntN([]int{8, 200}[l.r.IntN(2)])
		line = "join " + strconv.Itoa(series) + " " + strconv.Itoa(most)
	}
	var next [][]dot
	for _, c := range l.has[series] {
		last := len(next) - 1
		if last >= 0 && len(next[last])+len(c) <= most {
			next[last] = slices.Concat(next[last], c)
		} else {
			next = append(next, c)
		}
	}
	told := "ok"
	if len(next) == 0 {
		told = "error 10"
	}
	if l.r.IntN(30) == 0 {
		codec, told = 16, "error 1"
	}
	l.change(line+" "+strconv.Itoa(codec), told, next, series, pages)
}

// wantAll looks at all that can be asked for.
func (l *life) wantAll() {
	l.t.Helper()
	chunks, samples := 0, 0
	for series := range 3 {
		from, to := l.span()
		var all, within []string
		for _, c := range l.has[series] {
			chunks++
			samples += len(c)
			for _, x := range c {
				word := strconv.FormatInt(x.at, 10) + "=" + strconv.FormatInt(x.val, 10)
				all = append(all, word)
				if x.at >= from && x.at <= to {
					within = append(within, word)
				}
			}
		}
		l.want(spanned("get", series, -1e6, 1e6), cmp.Or(strings.Join(all, " "), "nothing"))
		if from <= to {
			l.want(spanned("get", series, from, to), cmp.Or(strings.Join(within, " "), "nothing"))
		} else {
			l.want(spanned("get", series, from, to), "error 7")
		}
	}
	stat := "series " + strconv.Itoa(len(l.has)) + " chunks " + strconv.Itoa(chunks) + " samples " + strconv.Itoa(samples) + " free "
	if got := l.do("stat"); !strings.HasPrefix(got, stat) {
		l.t.Fatalf("stat: %q, not %q", got, stat)
	}
	l.want("check", "sound")
}

// step does a line at random.
func (l *life) step() {
	l.t.Helper()
	switch n := l.r.IntN(20); {
	case n < 9:
		l.put()
	case n < 14:
		l.drop()
	case n < 17:
		l.again()
	case n < 19:
		l.want("crash", "ok")
	default:
		l.want([]string{"", "stat 1", "put 7", "get 1 2", "check ", "lay 1 01"}[l.r.IntN(6)], unknown)
	}
}

// P20.1, and through it P2, P5, P6 and P7: lines at random are answered as by a plain list of chunks; a Run of all of them tells the same.
func TestRandom(t *testing.T) {
	lives := 40
	if testing.Short() {
		lives = 4
	}
	full := 0
	for seed := range lives {
		l := &life{t: t, r: rand.New(rand.NewPCG(20, uint64(seed))), p: formatted(), has: model{}, most: []int{4, 200}[seed%2]}
		for range 150 {
			l.step()
			l.wantAll()
		}
		full += l.full
		for _, series := range slices.Sorted(maps.Keys(l.has)) {
			l.empty(series)
		}
		l.wantAll()
		l.want("stat", "series 0 chunks 0 samples 0 free 61")
		if got := Run(l.text.String()); got != l.told.String() {
			t.Fatalf("seed %d: Run tells otherwise than line by line", seed)
		}
	}
	if full == 0 {
		t.Error("there was room at all times")
	}
}

// empty drops all of a series: where there is no room for that at once, chunk by chunk.
func (l *life) empty(series int) {
	l.t.Helper()
	l.change(spanned("drop", series, -1e6, 1e6), "ok", nil, series, pages)
	for len(l.has[series]) > 0 {
		count := len(l.has[series])
		for i := count - 1; i >= 0; i-- {
			c := l.has[series]
			rest := slices.Concat(c[:i], c[i+1:])
			l.change(spanned("drop", series, c[i][0].at, c[i][len(c[i])-1].at), "ok", rest, series, pages)
		}
		if len(l.has[series]) == count {
			l.t.Fatalf("no chunk of series %d can be dropped", series)
		}
	}
}

// known tells whether an answer has one of the forms that the chapter names.
func known(answer string) bool {
	if slices.Contains([]string{"ok", "?", "nothing", "sound"}, answer) {
		return true
	}
	words := strings.Split(answer, " ")
	switch words[0] {
	case "error":
		n, err := strconv.Atoi(words[1])
		return err == nil && len(words) == 2 && slices.Contains([]int{1, 5, 6, 7, 8, 9, 10}, n)
	case "series":
		return len(words) == 8
	}
	for _, w := range words {
		at, val, ok := strings.Cut(w, "=")
		_, wrongAt := strconv.ParseInt(at, 10, 64)
		_, wrongVal := strconv.ParseInt(val, 10, 64)
		if !ok || wrongAt != nil || wrongVal != nil {
			return false
		}
	}
	return true
}

// wantKnown runs any text: as many lines are told as it has, each in a form that there is; no image is unsound.
func wantKnown(t *testing.T, text string) {
	t.Helper()
	lines := strings.Count(text, "\n")
	if text != "" && !strings.HasSuffix(text, "\n") {
		lines++
	}
	got := Run(text)
	if got != Run(text) {
		t.Fatalf("%q is told of in two ways", text)
	}
	if strings.Count(got, "\n") != lines || lines > 0 != strings.HasSuffix(got, "\n") {
		t.Fatalf("%q: %q has not %d lines", text, got, lines)
	}
	for answer := range strings.Lines(got) {
		if !known(strings.TrimSuffix(answer, "\n")) {
			t.Fatalf("%q: %q", text, answer)
		}
	}
	if out := Run(text + "\ncheck"); !strings.HasSuffix(out, "\nsound\n") {
		t.Fatalf("%q: %q", text, out)
	}
}

// P20.1, P1: all texts: of pieces of lines at random, and of bytes at random.
func TestArbitrary(t *testing.T) {
	r := rand.New(rand.NewPCG(20, 1))
	pieces := []string{"put", "get", "drop", "lay", "join", "stat", "crash", "check", "\n", "\n", "\n", " ", "0", "1", "2", "-1", "7", "15", "200", "999999999999999999", "-999999999999999999", "00", "-", "x", "\x00", "\xff"}
	for range 6000 {
		var b strings.Builder
		for range r.IntN(40) {
			b.WriteString(pieces[r.IntN(len(pieces))])
			if r.IntN(6) > 0 {
				b.WriteByte(' ')
			}
		}
		wantKnown(t, b.String())
	}
	for range 2000 {
		b := make([]byte, r.IntN(60))
		for i := range b {
			b[i] = byte(r.Uint32())
			if r.IntN(2) == 0 {
				b[i] = "\n 0-9puts"[r.IntN(9)]
			}
		}
		wantKnown(t, string(b))
	}
	// Lines of right forms, with arbitrary NUMBERS.
	for range 1500 {
		var b strings.Builder
		for range 1 + r.IntN(30) {
			shape := [][2]int{{0, 4}, {0, 6}, {1, 3}, {2, 3}, {3, 2}, {4, 3}, {5, 0}, {6, 0}, {7, 0}}[r.IntN(9)]
			b.WriteString(pieces[shape[0]])
			for range shape[1] {
				b.WriteString(" " + strconv.Itoa(r.IntN([]int{3, 20, 1e18}[r.IntN(3)])-r.IntN(2)))
			}
			b.WriteByte('\n')
		}
		wantKnown(t, b.String())
	}
}
