package bleach_test

import (
	"math"
	"slices"
	"strings"
	"testing"

	"bleach/api"
	"bleach/bleach"
)

// sample is aligned, and right.
func sample() api.Record {
	return api.Record{Name: "r1", Verdict: api.Aligned, Strand: api.OB, Contig: "chr-2", At: 10, Mismatches: 1, Letters: "ACGTN", Calls: ".zU.h"}
}

const sampleLine = "r1\taligned\tOB\tchr-2\t10\t1\tACGTN\t.zU.h\n"

// changed gives the sample with a change.
func changed(f func(r *api.Record)) api.Record {
	r := sample()
	f(&r)
	return r
}

func checkRender(t *testing.T, want string, records ...api.Record) {
	t.Helper()
	if got, e := bleach.Render(records...); got != want || e != api.OK {
		t.Errorf("P8: Render(%+v) = %q, %d, want %q", records, got, e, want)
	}
}

func checkParse(t *testing.T, s string, want ...api.Record) {
	t.Helper()
	if got, e := bleach.Parse(s); !slices.Equal(got, want) || e != api.OK {
		t.Errorf("P8: Parse(%.200q) = %+v, %d, want %+v", s, got, e, want)
	}
}

// checkLines: Render and Parse are each other's reverse.
func checkLines(t *testing.T, text string, records ...api.Record) {
	t.Helper()
	checkRender(t, text, records...)
	checkParse(t, text, records...)
}

func TestLinesOfEachVerdict(t *testing.T) {
	u, a := api.Record{Name: "x", Verdict: api.Unmapped}, api.Record{Name: "y", Verdict: api.Ambiguous}
	checkLines(t, "x\tunmapped\n", u)
	checkLines(t, "y\tambiguous\n", a)
	checkLines(t, sampleLine, sample())
	checkLines(t, "x\tunmapped\n"+sampleLine+"y\tambiguous\n", u, sample(), a)
	checkLines(t, sampleLine+sampleLine+"x\tunmapped\nx\tunmapped\n", sample(), sample(), u, u)
}

func TestLinesOfNoRecords(t *testing.T) {
	if s, e := bleach.Render(); s != "" || e != api.OK {
		t.Errorf("P8: Render() = %q, %d", s, e)
	}
	if s, e := bleach.Render([]api.Record{}...); s != "" || e != api.OK {
		t.Errorf("P8: Render of an empty list = %q, %d", s, e)
	}
	if l, e := bleach.Parse(""); len(l) != 0 || e != api.OK {
		t.Errorf("P8: Parse of nothing = %v, %d", l, e)
	}
}

func TestLinesOfEachStrand(t *testing.T) {
	for strand, word := range map[int]string{api.OT: "OT", api.OB: "OB", api.CTOT: "CTOT", api.CTOB: "CTOB"} {
		checkLines(t, strings.Replace(sampleLine, "OB", word, 1), changed(func(r *api.Record) { r.Strand = strand }))
	}
}

func TestLinesAtTheBounds(t *testing.T) {
	longName := strings.Repeat("n", api.MaxName)
	for _, name := range []string{"a", "Z", "0", "_", ".", "-", "unmapped", "OT", longName, "aB9_.-"} {
		checkLines(t, name+"\tunmapped\n", api.Record{Name: name})
		checkLines(t, name+"\tambiguous\n", api.Record{Name: name, Verdict: api.Ambiguous})
		checkLines(t, name+"\taligned\tOB\t"+name+"\t10\t1\tACGTN\t.zU.h\n", changed(func(r *api.Record) { r.Name, r.Contig = name, name }))
	}
	for at, digits := range map[int]string{0: "0", 1: "1", 9: "9", 10: "10", 100: "100", 4095: "4095", api.MaxLetters: "4096"} {
		checkLines(t, strings.Replace(sampleLine, "10", digits, 1), changed(func(r *api.Record) { r.At = at }))
	}
	for n, digits := range []string{"0", "1", "2", "3", "4", "5"} {
		checkLines(t, strings.Replace(sampleLine, "\t1\t", "\t"+digits+"\t", 1), changed(func(r *api.Record) { r.Mismatches = n }))
	}
	for _, c := range "ACGTN" {
		checkLines(t, "r\taligned\tOT\tc\t0\t1\t"+string(c)+"\t.\n", api.Record{Name: "r", Verdict: 1, Strand: 1, Contig: "c", Mismatches: 1, Letters: string(c), Calls: "."})
		long, calls := strings.Repeat(string(c), api.MaxRead), strings.Repeat("u", api.MaxRead)
		checkLines(t, "r\taligned\tOT\tc\t0\t128\t"+long+"\t"+calls+"\n", api.Record{Name: "r", Verdict: 1, Strand: 1, Contig: "c", Mismatches: 128, Letters: long, Calls: calls})
	}
	for _, c := range ".zxhuZXHU" {
		calls := strings.Repeat(string(c), 5)
		checkLines(t, strings.Replace(sampleLine, ".zU.h", calls, 1), changed(func(r *api.Record) { r.Calls = calls }))
	}
}

func TestLinesOfManyRecords(t *testing.T) {
	var records []api.Record
	var text strings.Builder
	for i := range 3000 {
		if i%3 == 0 {
			records = append(records, sample())
			text.WriteString(sampleLine)
			continue
		}
		records = append(records, api.Record{Name: contigName(i), Verdict: api.Ambiguous})
		text.WriteString(contigName(i) + "\tambiguous\n")
	}
	checkLines(t, text.String(), records...)
}

// checkWrong: a record that is not right is refused, alone and beside right ones.
func checkWrong(t *testing.T, r api.Record) {
	t.Helper()
	right, other := sample(), api.Record{Name: "x"}
	for _, records := range [][]api.Record{{r}, {r, right, other}, {right, r, other}, {right, other, r}, {r, r}} {
		if s, e := bleach.Render(records...); s != "" || e != api.ErrRecord {
			t.Errorf("P8: Render(%.300v) = %q, %d, want ErrRecord", records, s, e)
		}
	}
}

// wrongNames: each byte that may not be in a name, ahead, amid and behind; too few bytes and too many.
func wrongNames() []string {
	all := []string{"", strings.Repeat("n", api.MaxName+1), strings.Repeat("n", 1000), "ä", "a b"}
	for n := range 256 {
		c := string([]byte{byte(n)})
		if !strings.Contains("ABCDEFGHIJKLMNOPQRSTUVWXYZabcdefghijklmnopqrstuvwxyz0123456789_.-", c) {
			all = append(all, c, c+"a", "a"+c+"a", "a"+c)
		}
	}
	return all
}

func TestRecordsWithWrongNames(t *testing.T) {
	for _, name := range wrongNames() {
		checkWrong(t, api.Record{Name: name, Verdict: api.Unmapped})
		checkWrong(t, api.Record{Name: name, Verdict: api.Ambiguous})
		checkWrong(t, changed(func(r *api.Record) { r.Name = name }))
		checkWrong(t, changed(func(r *api.Record) { r.Contig = name }))
	}
}

func TestRecordsWithWrongNumbers(t *testing.T) {
	for _, n := range []int{-1, 3, 4, 256, 257, -1 << 32, 1 << 32, 1<<32 + 1, math.MinInt, math.MaxInt} {
		checkWrong(t, api.Record{Name: "x", Verdict: n})
		checkWrong(t, changed(func(r *api.Record) { r.Verdict = n }))
	}
	for _, n := range []int{0, 5, -1, 257, 1<<32 + 1, math.MinInt, math.MaxInt} {
		checkWrong(t, changed(func(r *api.Record) { r.Strand = n }))
	}
	for _, n := range []int{-1, api.MaxLetters + 1, 1 << 32, math.MinInt, math.MaxInt} {
		checkWrong(t, changed(func(r *api.Record) { r.At = n }))
	}
	for _, n := range []int{-1, 6, api.MaxRead, 1 << 32, math.MinInt, math.MaxInt} {
		checkWrong(t, changed(func(r *api.Record) { r.Mismatches = n }))
	}
}

func TestRecordsWithWrongLettersAndCalls(t *testing.T) {
	long := api.MaxRead + 1
	checkWrong(t, changed(func(r *api.Record) { r.Letters = "" }))
	checkWrong(t, changed(func(r *api.Record) { r.Letters, r.Calls, r.Mismatches = "", "", 0 }))
	checkWrong(t, changed(func(r *api.Record) { r.Letters, r.Calls = strings.Repeat("A", long), strings.Repeat(".", long) }))
	for _, s := range []string{"", ".", "....", "......", strings.Repeat(".", api.MaxRead)} {
		checkWrong(t, changed(func(r *api.Record) { r.Calls = s }))
	}
	for _, s := range []string{"A", "ACGT", "ACGTNN", strings.Repeat("A", api.MaxRead)} {
		checkWrong(t, changed(func(r *api.Record) { r.Letters = s }))
	}
	for n := range 256 {
		c := string([]byte{byte(n)})
		for _, s := range []string{c + "AAAA", "AA" + c + "AA", "AAAA" + c} {
			if !strings.Contains("ACGTN", c) {
				checkWrong(t, changed(func(r *api.Record) { r.Letters = s }))
			}
		}
		for _, s := range []string{c + "....", ".." + c + "..", "...." + c} {
			if !strings.Contains(".zxhuZXHU", c) {
				checkWrong(t, changed(func(r *api.Record) { r.Calls = s }))
			}
		}
	}
}

// Of a record that is not aligned no other field is more than zero.
func TestRecordsThatAreNotAlignedWithMore(t *testing.T) {
	for _, verdict := range []int{api.Unmapped, api.Ambiguous} {
		checkWrong(t, changed(func(r *api.Record) { r.Verdict = verdict }))
		for _, f := range []func(r *api.Record){
			func(r *api.Record) { r.Strand = api.OT },
			func(r *api.Record) { r.Strand = -1 },
			func(r *api.Record) { r.Contig = "c" },
			func(r *api.Record) { r.At = 1 },
			func(r *api.Record) { r.At = -1 },
			func(r *api.Record) { r.Mismatches = 1 },
			func(r *api.Record) { r.Mismatches = -1 },
			func(r *api.Record) { r.Letters = "A" },
			func(r *api.Record) { r.Calls = "." },
			func(r *api.Record) { r.Letters, r.Calls = "A", "." },
		} {
			r := api.Record{Name: "x", Verdict: verdict}
			f(&r)
			checkWrong(t, r)
		}
	}
	checkWrong(t, api.Record{})
	checkWrong(t, api.Record{Name: "x", Verdict: api.Aligned})
}
