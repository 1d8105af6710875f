package index_test

import (
	"slices"
	"strings"
	"testing"

	"bleach/api"
	"bleach/index"
)

func checkNew(t *testing.T, what string, contigs []api.Contig, want api.Errno) {
	t.Helper()
	defer func() {
		if p := recover(); p != nil {
			t.Fatalf("P1: New of %q panics: %v", what, p)
		}
	}()
	x, e := index.New(contigs)
	if e != want {
		t.Errorf("P5: New of %q: %d, want %d", what, e, want)
	}
	if (x != nil) != (want == api.OK) {
		t.Errorf("P5: New of %q: an index is %v beside %d", what, x != nil, e)
	}
}

func TestNewOfRightContigs(t *testing.T) {
	for _, s := range words("ACGTN", 3) {
		checkNew(t, s, contigsOf(s), api.OK)
		checkNew(t, "A and "+s, contigsOf("A", s), api.OK)
	}
}

func TestNewOfNoContigs(t *testing.T) {
	checkNew(t, "nil", nil, api.ErrFasta)
	checkNew(t, "none", []api.Contig{}, api.ErrFasta)
	checkNew(t, "none, with room behind", contigsOf("ACGT")[:0], api.ErrFasta)
}

func TestNewOfContigsWithoutLetters(t *testing.T) {
	checkNew(t, "one", contigsOf(""), api.ErrFasta)
	checkNew(t, "a named one", []api.Contig{{Name: "ACGT"}}, api.ErrFasta)
	for i := range api.MaxContigs {
		l := slices.Repeat([]string{"ACGT"}, api.MaxContigs)
		l[i] = ""
		checkNew(t, "one of many", contigsOf(l...), api.ErrFasta)
	}
}

// Every byte that is no letter, wherever it stands.
func TestNewOfWhatIsNoLetter(t *testing.T) {
	for n := range 256 {
		c := string([]byte{byte(n)})
		want := api.ErrFasta
		if strings.Contains("ACGTN", c) {
			want = api.OK
		}
		for _, s := range []string{c, c + "ACGT", "AC" + c + "GT", "ACGT" + c} {
			checkNew(t, s, contigsOf(s), want)
			checkNew(t, s+" first", contigsOf(s, "ACGT", "A"), want)
			checkNew(t, s+" amid", contigsOf("ACGT", s, "A"), want)
			checkNew(t, s+" last", contigsOf("ACGT", "A", s), want)
		}
	}
	checkNew(t, "a rune", contigsOf("ACGÅ"), api.ErrFasta)
}

func TestNewAtTheBoundOfContigs(t *testing.T) {
	for n, want := range map[int]api.Errno{
		api.MaxContigs - 1: api.OK,
		api.MaxContigs:     api.OK,
		api.MaxContigs + 1: api.ErrMany,
		10000:              api.ErrMany,
	} {
		checkNew(t, "some contigs of one letter", slices.Repeat(contigsOf("A"), n), want)
	}
}

func TestNewAtTheBoundOfLetters(t *testing.T) {
	as := func(n int) string { return strings.Repeat("A", n) }
	const share = api.MaxLetters / api.MaxContigs
	shares := slices.Repeat([]string{as(share)}, api.MaxContigs)
	checkNew(t, "all in one", contigsOf(as(api.MaxLetters)), api.OK)
	checkNew(t, "one too many in one", contigsOf(as(api.MaxLetters+1)), api.ErrMany)
	checkNew(t, "all in two", contigsOf(as(api.MaxLetters-1), "C"), api.OK)
	checkNew(t, "one too many in two", contigsOf(as(api.MaxLetters), "C"), api.ErrMany)
	checkNew(t, "one too many, the short one first", contigsOf("C", as(api.MaxLetters)), api.ErrMany)
	checkNew(t, "all in shares", contigsOf(shares...), api.OK)
	for i := range shares {
		more := slices.Clone(shares)
		more[i] += "G"
		checkNew(t, "one too many in shares", contigsOf(more...), api.ErrMany)
	}
	checkNew(t, "far too many", contigsOf(as(1<<20), as(1<<20)), api.ErrMany)
}

// ErrFasta is named ahead of ErrMany, wherever the wrong contig stands.
func TestNewOfSeveralErrors(t *testing.T) {
	long := strings.Repeat("A", api.MaxLetters+1)
	checkNew(t, "too many empty ones", make([]api.Contig, api.MaxContigs+1), api.ErrFasta)
	for _, wrong := range []string{"", "x", "a", "ACG\n", long + "x", long + "\x00"} {
		many := slices.Repeat(contigsOf("A"), api.MaxContigs+4)
		for i := range many {
			with := slices.Clone(many)
			with[i].Letters = wrong
			checkNew(t, "too many, a wrong one", with, api.ErrFasta)
		}
		checkNew(t, "too long and wrong", contigsOf(long, wrong), api.ErrFasta)
		checkNew(t, "wrong and too long", contigsOf(wrong, long), api.ErrFasta)
	}
	checkNew(t, "too many and too long", slices.Repeat(contigsOf(long), api.MaxContigs+1), api.ErrMany)
}

func TestNewDoesNotLookAtNames(t *testing.T) {
	for _, name := range []string{"", "one", "!", "a\tb\n", ">", "\xff\x00", strings.Repeat("n", api.MaxName+1), strings.Repeat("n", 1<<16)} {
		twice := []api.Contig{{Name: name, Letters: "ACGT"}, {Name: name, Letters: "GT"}}
		checkNew(t, "contigs of one name", twice, api.OK)
		if x, _ := index.New(twice); x != nil {
			checkFind(t, x, "GT", api.OT, 0, []api.Place{{Contig: 0, At: 2}, {Contig: 1, At: 0}})
		}
	}
}
