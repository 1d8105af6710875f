package seqs_test

import (
	"bytes"
	"slices"
	"strings"
	"testing"

	"bleach/api"
)

// judged is a reader and its model; Fasta and Fastq are judged alike.
type judged[E comparable] struct {
	name  string
	call  func([]byte) ([]E, api.Errno, int)
	model func(string) ([]E, api.Errno, int)
}

// check hands s in with room behind it, and looks at the answer only after all of that was written over: what the answer kept of it would be seen (P1).
func (j judged[E]) check(t *testing.T, s string) {
	t.Helper()
	const room = "\nACGT>@+\n"
	behind := []byte(s + room)
	defer func() {
		if p := recover(); p != nil {
			t.Fatalf("P1: %s(%.80q) panics: %v", j.name, s, p)
		}
	}()
	got, e, at := j.call(behind[:len(s)])
	if string(behind) != s+room {
		t.Fatalf("P1: %s(%.80q) writes into what is handed in: %.80q", j.name, s, behind)
	}
	copy(behind, bytes.Repeat([]byte("#"), len(behind)))
	want, we, wat := j.model(s)
	if !slices.Equal(got, want) || e != we || at != wat {
		t.Fatalf("%s(%.80q) = %.80v, %d, %d, want %.80v, %d, %d", j.name, s, got, e, at, want, we, wat)
	}
	if e != api.OK && got != nil {
		t.Fatalf("P1: %s(%.80q) answers a list beside the error %d", j.name, s, e)
	}
}

// checkAllShort checks all texts of at most that many of these bytes.
func (j judged[E]) checkAllShort(t *testing.T, of string, most int) {
	t.Helper()
	var grow func(s string)
	grow = func(s string) {
		j.check(t, s)
		if len(s) == most {
			return
		}
		for i := range len(of) {
			grow(s + of[i:i+1])
		}
	}
	grow("")
}

// checkEdits checks s with one thing wrong, in every place: an end, a byte of any value for another, one too many, one too few, a line twice, a line too few.
func (j judged[E]) checkEdits(t *testing.T, s string) {
	t.Helper()
	j.check(t, s)
	for i := range len(s) {
		j.check(t, s[:i])
		j.check(t, s[i:])
		j.check(t, s[:i]+s[i+1:])
		for c := range 256 {
			with := string([]byte{byte(c)})
			j.check(t, s[:i]+with+s[i+1:])
			j.check(t, s[:i]+with+s[i:])
		}
	}
	lines := strings.SplitAfter(s, "\n")
	for i, l := range lines {
		ahead, after := strings.Join(lines[:i], ""), strings.Join(lines[i+1:], "")
		j.check(t, ahead+after)
		j.check(t, ahead+l+l+after)
	}
}

// checkOwned writes into one answer, and into its spare room, and looks whether another hangs on that.
func (j judged[E]) checkOwned(t *testing.T, s string) {
	t.Helper()
	var zero E
	want, _, _ := j.model(s)
	one, _, _ := j.call([]byte(s))
	two, _, _ := j.call([]byte(s))
	one = one[:cap(one)]
	for i := range one {
		one[i] = zero
	}
	if !slices.Equal(two, want) {
		t.Errorf("P1: two answers of %s share memory: %v", j.name, two)
	}
	if three, e, at := j.call([]byte(s)); !slices.Equal(three, want) || e != api.OK || at != 0 {
		t.Errorf("P1: %s hangs on what was done with an earlier answer: %v, %d, %d", j.name, three, e, at)
	}
}

// placed is a wrong text, and what must be said of it.
type placed struct {
	text  string
	errno api.Errno
	at    int
}

func (j judged[E]) checkPlaced(t *testing.T, cases []placed) {
	t.Helper()
	for _, k := range cases {
		got, e, at := j.call([]byte(k.text))
		if got != nil || e != k.errno || at != k.at {
			t.Errorf("%s(%.80q) = %.80v, %d, %d, want %d, %d", j.name, k.text, got, e, at, k.errno, k.at)
		}
		j.check(t, k.text)
	}
}
