package seqs_test

import (
	"math"
	"strings"
	"testing"
	"unsafe"

	"bleach/api"
	"bleach/seqs"
)

// allLetters calls f with each string of at most four letters.
func allLetters(f func(s string)) {
	var grow func(s string)
	grow = func(s string) {
		f(s)
		if len(s) == 4 {
			return
		}
		for _, c := range "ACGTN" {
			grow(s + string(c))
		}
	}
	grow("")
}

func TestReverse(t *testing.T) {
	for s, want := range map[string]string{"": "", "A": "T", "C": "G", "G": "C", "T": "A", "N": "N", "ACGTTCGA": "TCGAACGT", "AANC": "GNTT"} {
		if got, e := seqs.Reverse(s); got != want || e != api.OK {
			t.Errorf("P4: Reverse(%q) = %q, %d, want %q", s, got, e, want)
		}
	}
	pairs := strings.NewReplacer("A", "T", "T", "A", "C", "G", "G", "C")
	allLetters(func(s string) {
		want := ""
		for _, c := range pairs.Replace(s) {
			want = string(c) + want
		}
		if got, e := seqs.Reverse(s); got != want || e != api.OK {
			t.Errorf("P4: Reverse(%q) = %q, %d, want %q", s, got, e, want)
		}
	})
}

func TestConvert(t *testing.T) {
	for strand, want := range map[int]string{1: "ATGTTTGA", 2: "ACATTCAA", 3: "ATGTTTGA", 4: "ACATTCAA"} {
		if got, e := seqs.Convert("ACGTTCGA", strand); got != want || e != api.OK {
			t.Errorf("P4: Convert(ACGTTCGA, %d) = %q, %d, want %q", strand, got, e, want)
		}
	}
	allLetters(func(s string) {
		top, bottom := strings.ReplaceAll(s, "C", "T"), strings.ReplaceAll(s, "G", "A")
		for strand, want := range map[int]string{api.OT: top, api.CTOT: top, api.OB: bottom, api.CTOB: bottom} {
			if got, e := seqs.Convert(s, strand); got != want || e != api.OK {
				t.Errorf("P4: Convert(%q, %d) = %q, %d, want %q", s, strand, got, e, want)
			}
		}
	})
}

func TestConvertOfNoStrand(t *testing.T) {
	for _, strand := range []int{0, 5, -1, -4, 257, 1 << 32, 1<<32 + 1, math.MinInt, math.MaxInt} {
		for _, s := range []string{"", "A", "ACGTN"} {
			if got, e := seqs.Convert(s, strand); got != "" || e != api.ErrSetting {
				t.Errorf("P4: Convert(%q, %d) = %q, %d, want ErrSetting", s, strand, got, e)
			}
		}
	}
}

// checkNoLetters: ErrLetter is named ahead of ErrSetting, so it is the answer whatever the strand.
func checkNoLetters(t *testing.T, s string) {
	t.Helper()
	if got, e := seqs.Reverse(s); got != "" || e != api.ErrLetter {
		t.Errorf("P4: Reverse(%q) = %q, %d, want ErrLetter", s, got, e)
	}
	for strand := -1; strand <= 5; strand++ {
		if got, e := seqs.Convert(s, strand); got != "" || e != api.ErrLetter {
			t.Errorf("P4: Convert(%q, %d) = %q, %d, want ErrLetter", s, strand, got, e)
		}
	}
}

func TestWhatIsNoLetter(t *testing.T) {
	for n := range 256 {
		c := string([]byte{byte(n)})
		if strings.Contains("ACGTN", c) {
			continue
		}
		for _, s := range []string{c, c + "ACGT", "AC" + c + "GT", "ACGT" + c, c + c} {
			checkNoLetters(t, s)
		}
	}
	for _, s := range []string{"é", "ACGT\n", "acgtn", "U", "\U0001F600", strings.Repeat("A", 1<<16) + "a"} {
		checkNoLetters(t, s)
	}
}

func TestLettersBeyondAllBounds(t *testing.T) {
	s := strings.Repeat("ACG", 100000)
	if got, e := seqs.Reverse(s); got != strings.Repeat("CGT", 100000) || e != api.OK {
		t.Errorf("P4: Reverse of %d letters: %d letters, %d", len(s), len(got), e)
	}
	if got, e := seqs.Convert(s, api.OB); got != strings.Repeat("ACA", 100000) || e != api.OK {
		t.Errorf("P4: Convert of %d letters: %d letters, %d", len(s), len(got), e)
	}
}

// Even where nothing is to be turned, the answer is not the argument handed back.
func TestLettersAnsweredAreNewMemory(t *testing.T) {
	s := strings.Repeat("AT", 50)
	if got, _ := seqs.Reverse(s); got != s || unsafe.StringData(got) == unsafe.StringData(s) {
		t.Error("P1: Reverse answers what was handed in")
	}
	for strand := api.OT; strand <= api.CTOB; strand++ {
		if got, _ := seqs.Convert(s, strand); got != s || unsafe.StringData(got) == unsafe.StringData(s) {
			t.Errorf("P1: Convert for %d answers what was handed in", strand)
		}
	}
}
