package bleach_test

import (
	"math"
	"math/rand"
	"slices"
	"strings"
	"sync"
	"testing"
	"unsafe"

	"bleach/api"
	"bleach/bleach"
)

// writable gives a string and the bytes it stands on, which a caller could write into.
func writable(s string) (string, []byte) {
	b := []byte(s)
	return unsafe.String(&b[0], len(b)), b
}

// All that was handed in is written over behind the call, even the strings' bytes: the record stays as it was.
func TestAlignKeepsAndSharesNothing(t *testing.T) {
	for _, read := range []string{"TTATGACATAG", turnedRound("TTATGACATAG"), "TTACAACATAG", turnedRound("TTACAACATAG")} {
		f := referenceOf(t, "TTACGACATAG")
		want := f.align(t, read, 0)
		want.Contig = "one"
		var bytes [4][]byte
		r := api.Read{}
		r.Name, bytes[0] = writable("r")
		r.Letters, bytes[1] = writable(read)
		contigs := []api.Contig{{}, {Name: "behind", Letters: "?"}}
		contigs[0].Name, bytes[2] = writable("one")
		contigs[0].Letters, bytes[3] = writable("TTACGACATAG")
		before := slices.Clone(contigs)
		got, e := bleach.Align(contigs[:1], f.x, r, 0)
		if !slices.Equal(contigs, before) || string(bytes[0]) != "r" || string(bytes[1]) != read || string(bytes[2]) != "one" || string(bytes[3]) != "TTACGACATAG" {
			t.Errorf("P1: Align writes into what is handed in: %v %v", contigs, r)
		}
		for _, b := range bytes {
			copy(b, strings.Repeat("#", len(b)))
		}
		contigs[0] = api.Contig{}
		if got != want || got.Verdict != api.Aligned || e != api.OK {
			t.Errorf("P1: Align's answer hangs on what was handed in: %+v, %d, want %+v", got, e, want)
		}
	}
	for _, read := range []string{"ACGT", "GGGGG"} {
		name, b := writable("name")
		f := referenceOf(t, "ACGTTCGA")
		got, _ := bleach.Align(f.contigs, f.x, api.Read{Name: name, Letters: read}, 0)
		copy(b, "####")
		if got.Name != "name" {
			t.Errorf("P1: the name in Align's answer is the one handed in: %+v", got)
		}
	}
}

// The index stays as it is, and wrong calls between right ones leave nothing behind.
func TestAlignHangsOnItsArgumentsAlone(t *testing.T) {
	f := referenceOf(t, "ACGTTCGATTACAGC", "GGNCAT")
	for range 3 {
		for _, s := range words("ACGTN", 2) {
			bleach.Align(f.contigs, f.x, api.Read{Name: "w", Letters: s}, -1)
			bleach.Align(f.contigs, f.x, api.Read{Name: "w", Letters: "x"}, 0)
			bleach.Align(f.contigs, f.x, api.Read{Name: "w", Letters: strings.Repeat("A", 200)}, 3)
			f.checkAll(t, s, s+"TTCG")
		}
	}
}

func TestAlignBySeveralAtOnce(t *testing.T) {
	f := referenceOf(t, "ACGTTCGATTACAGC", "GGNCAT")
	var wait sync.WaitGroup
	for n := range 8 {
		wait.Go(func() {
			for _, s := range words("ACGTN", 3) {
				want := modelAlign(f.refs, "r", s, n%4)
				if got, e := bleach.Align(f.contigs, f.x, api.Read{Name: "r", Letters: s}, n%4); got != want || e != api.OK {
					t.Errorf("P7: Align of %s with %d = %+v, %d, want %+v", s, n%4, got, e, want)
				}
			}
		})
	}
	wait.Wait()
}

// Of contigs that are not the index's no answer is promised; but the call ends without a panic.
func TestAlignNeverPanics(t *testing.T) {
	f := referenceOf(t, "ACGTTCGATTACAGC", "GGNCAT", "CCCCCCCC")
	lists := [][]api.Contig{nil, {}, {{}}, {{}, {}, {}, {}}, contigsOf("A"), contigsOf("ACGTTCGATTACAG", "GGNCA", "C"), contigsOf("x", "ACGTTCGATTACAGC"), contigsOf("\xff\xfe\x00", strings.Repeat("?", 50)), f.contigs[:1], f.contigs[1:], contigsOf(strings.Repeat("C", 1<<16))}
	reads := append(words("ACGTN", 3), "", "x", "acgt", "\xff", "CCCCCCCC", "ACGTTCGATTACAGC", strings.Repeat("A", 128), strings.Repeat("A", 129), strings.Repeat("\x00", 1<<12))
	for _, contigs := range lists {
		for _, s := range reads {
			for _, budget := range []int{math.MinInt, -1, 0, 1, 2, 3, 4, math.MaxInt} {
				bleach.Align(contigs, f.x, api.Read{Name: s, Letters: s}, budget)
			}
		}
	}
}

func TestRenderWritesIntoNothing(t *testing.T) {
	records := []api.Record{sample(), {Name: "x"}, {Name: "behind", Verdict: 7}}
	before := slices.Clone(records)
	checkRender(t, sampleLine+"x\tunmapped\n", records[:2]...)
	bleach.Render(records...)
	if !slices.Equal(records, before) {
		t.Errorf("P1: Render writes into what is handed in, or behind it: %v", records)
	}
}

func TestRenderSharesNothing(t *testing.T) {
	r := sample()
	var bytes [4][]byte
	r.Name, bytes[0] = writable(r.Name)
	r.Contig, bytes[1] = writable(r.Contig)
	r.Letters, bytes[2] = writable(r.Letters)
	r.Calls, bytes[3] = writable(r.Calls)
	list := []api.Record{r}
	got, e := bleach.Render(list...)
	list[0] = api.Record{}
	for _, b := range bytes {
		copy(b, "######")
	}
	if got != sampleLine || e != api.OK {
		t.Errorf("P1: Render's answer hangs on what was handed in: %q, %d", got, e)
	}
	checkRender(t, sampleLine, sample())
}

func TestParseKeepsAndSharesNothing(t *testing.T) {
	const text = sampleLine + "x\tunmapped\ny\tambiguous\n"
	want := []api.Record{sample(), {Name: "x"}, {Name: "y", Verdict: api.Ambiguous}}
	s, b := writable(text)
	one, e := bleach.Parse(s)
	two, _ := bleach.Parse(s)
	if string(b) != text {
		t.Errorf("P1: Parse writes into what is handed in: %q", b)
	}
	copy(b, strings.Repeat("#", len(b)))
	if !slices.Equal(one, want) || e != api.OK {
		t.Errorf("P1: Parse's answer hangs on what was handed in: %+v, %d", one, e)
	}
	one = one[:cap(one)]
	for i := range one {
		one[i] = api.Record{Name: "###"}
	}
	if !slices.Equal(two, want) {
		t.Errorf("P1: two answers of Parse share memory: %+v", two)
	}
	checkParse(t, text, want...)
}

// Whatever comes, Render and Parse end without a panic, and what they answer is each other's reverse.
func TestRenderAndParseOfAnything(t *testing.T) {
	r := rand.New(rand.NewSource(9))
	texts := []string{"", "x", "r1", "a b", "ACG", "...", "zxh", "\t", "\n", "\xff", strings.Repeat("A", 33), strings.Repeat("A", 129)}
	numbers := []int{math.MinInt, -1, 0, 1, 2, 3, 4, 5, 4096, 4097, math.MaxInt}
	text := func() string { return texts[r.Intn(len(texts))] }
	number := func() int { return numbers[r.Intn(len(numbers))] }
	right := 0
	for range 200000 {
		x := api.Record{Name: text(), Verdict: number(), Strand: number(), Contig: text(), At: number(), Mismatches: number(), Letters: text(), Calls: text()}
		s, e := bleach.Render(x)
		if e != api.OK {
			if s != "" || e != api.ErrRecord {
				t.Fatalf("P8: Render(%+v) = %q, %d", x, s, e)
			}
			continue
		}
		right++
		checkParse(t, s, x)
	}
	if right == 0 {
		t.Error("no record was right")
	}
	for range 20000 {
		bleach.Parse(drawn(r, "\t\n\x00\xffaA0.z\t", r.Intn(30)))
	}
}
