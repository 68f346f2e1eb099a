package shell

import (
	"strconv"
	"strings"

	"rick/api"
	"rick/fsck"
)

// mostDigits is how many digits a NUMBER has at most.
const mostDigits = 18

// read is a line's first word and the NUMBERS behind it, if all the others are some.
func read(line string) (string, []int64, bool) {
	first, others, more := strings.Cut(line, " ")
	if !more {
		return first, nil, true
	}
	var l []int64
	for word := range strings.SplitSeq(others, " ") {
		n, ok := number(word)
		if !ok {
			return "", nil, false
		}
		l = append(l, n)
	}
	return first, l, true
}

// number is a word that is a NUMBER.
func number(word string) (int64, bool) {
	if len(strings.TrimPrefix(word, "-")) > mostDigits {
		return 0, false
	}
	n, err := strconv.ParseInt(word, 10, 64)
	// A sign +, a - ahead of 0 and a needless 0 aren't told again.
	if err != nil || strconv.FormatInt(n, 10) != word {
		return 0, false
	}
	return n, true
}

// samples is pairs of a time and a value, if there is one at least, and no value is below 0.
func samples(n []int64) ([]api.Sample, bool) {
	if len(n) == 0 || len(n)%2 != 0 {
		return nil, false
	}
	var l []api.Sample
	for i := 0; i < len(n); i += 2 {
		if n[i+1] < 0 {
			return nil, false
		}
		l = append(l, api.Sample{At: n[i], Val: uint64(n[i+1])})
	}
	return l, true
}

// told is what is told of a change, or of what can't be answered.
func told(e api.Errno) string {
	if e == api.OK {
		return "ok"
	}
	return "error " + strconv.Itoa(int(e))
}

// listed is what there is, parted by blanks, or the word for nothing.
func listed[T any](l []T, text func(T) string, nothing string) string {
	if len(l) == 0 {
		return nothing
	}
	var words []string
	for _, x := range l {
		words = append(words, text(x))
	}
	return strings.Join(words, " ")
}

func sampleText(s api.Sample) string {
	return strconv.FormatInt(s.At, 10) + "=" + strconv.FormatUint(s.Val, 10)
}

func defectText(x fsck.Defect) string {
	return strconv.Itoa(x.Kind) + "@" + strconv.Itoa(x.Addr)
}
