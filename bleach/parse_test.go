package bleach_test

import (
	"math/rand"
	"regexp"
	"strconv"
	"strings"
	"testing"

	"bleach/api"
	"bleach/bleach"
)

const (
	aName  = `([A-Za-z0-9_.-]{1,32})`
	number = `(0|[1-9][0-9]{0,3})`
)

var (
	alignedLine = regexp.MustCompile(`^` + aName + `\taligned\t(OT|OB|CTOT|CTOB)\t` + aName + `\t` + number + `\t` + number + `\t([ACGTN]{1,128})\t([.zxhuZXHU]{1,128})\n$`)
	otherLine   = regexp.MustCompile(`^` + aName + `\t(unmapped|ambiguous)\n$`)
)

// modelParse is P8 by expressions: it reads a text by the form of its lines, the program by writing it again.
func modelParse(s string) ([]api.Record, bool) {
	var all []api.Record
	for _, l := range strings.SplitAfter(s, "\n") {
		if l == "" {
			continue // behind the last line's end
		}
		if m := otherLine.FindStringSubmatch(l); m != nil {
			all = append(all, api.Record{Name: m[1], Verdict: map[string]int{"unmapped": api.Unmapped, "ambiguous": api.Ambiguous}[m[2]]})
			continue
		}
		m := alignedLine.FindStringSubmatch(l)
		if m == nil {
			return nil, false
		}
		at, _ := strconv.Atoi(m[4])
		n, _ := strconv.Atoi(m[5])
		if at > 4096 || n > len(m[6]) || len(m[6]) != len(m[7]) {
			return nil, false
		}
		strand := map[string]int{"OT": api.OT, "OB": api.OB, "CTOT": api.CTOT, "CTOB": api.CTOB}[m[2]]
		all = append(all, api.Record{Name: m[1], Verdict: api.Aligned, Strand: strand, Contig: m[3], At: at, Mismatches: n, Letters: m[6], Calls: m[7]})
	}
	return all, true
}

func checkRefusedText(t *testing.T, s string) {
	t.Helper()
	if l, e := bleach.Parse(s); l != nil || e != api.ErrRecord {
		t.Errorf("P8: Parse(%.200q) = %+v, %d, want ErrRecord", s, l, e)
	}
}

// checkText holds Parse against the model, and Render against what Parse has read.
func checkText(t *testing.T, s string) (right bool) {
	t.Helper()
	want, right := modelParse(s)
	if !right {
		checkRefusedText(t, s)
		return false
	}
	checkLines(t, s, want...)
	return true
}

// Each of these fields stands in for one that is right.
func TestParseOfWrongFields(t *testing.T) {
	wrong := [][]string{
		wrongNames(),
		{"", "Aligned", "ALIGNED", "align", "aligned ", " aligned", "unmapped", "ambiguous", "1", "unmappedaligned"},
		{"", "ot", "Ot", "OTOT", "CTO", "CT", "XT", "1", "OT ", " OT", "OT OB", "T", "O"},
		wrongNames(),
		{"", "010", "00", "01", "+1", "-1", "-0", "+0", " 1", "1 ", "1.0", "1e1", "0x1", "1_0", "x", "١", "4097", "4096 ", "04096", "10000", "65536", "4294967296", "4294967297", "9223372036854775807", "9223372036854775808", "18446744073709551616", "18446744073709551617", "99999999999999999999", strings.Repeat("1", 1000), strings.Repeat("0", 1000)},
		{"", "01", "00", "+1", "-1", "-0", " 1", "1 ", "6", "10", "1.0", "0x1", "4294967297", "18446744073709551617", "99999999999999999999", "x"},
		{"", "acgtn", "ACGT", "ACGTNA", "ACGTX", "ACG N", "....."},
		{"", "....", "......", ".zU.y", ".zU .", "ACGTN"},
	}
	for i, all := range wrong {
		for _, field := range all {
			fields := strings.Split(strings.TrimSuffix(sampleLine, "\n"), "\t")
			fields[i] = field
			s := strings.Join(fields, "\t") + "\n"
			checkRefusedText(t, s)
			checkRefusedText(t, sampleLine+s)
			checkRefusedText(t, s+sampleLine)
			checkRefusedText(t, "x\tunmapped\n"+s+"y\tambiguous\n")
		}
	}
}

func TestParseOfWrongForms(t *testing.T) {
	for _, s := range []string{
		"\n", "\t\n", "\t", "x", "x\n", "x\t", "x\t\n", "x\tunmapped", "x\tunmapped\t", "x\tunmapped\t\n", "\tx\tunmapped\n", "x\t\tunmapped\n", "x unmapped\n", "x\tunmapped\r\n", "x\tunmapped\n\n", "\nx\tunmapped\n", "x\tunmapped \n", "\tunmapped\n", "unmapped\n", "unmapped\tx\n", "x\tunmapped\x00\n", "x\tambiguous\tambiguous\n", "x\taligned\n", "x\tunmapped\ty\tunmapped\n", "x\tunmapped\t\t\t0\t0\t\t\n", "x\tambiguous\t\t\t0\t0\t\t\n", "x\tunmapped\t\t\t\t\t\t\n", "x\tunmapped\tOT\tc\t0\t0\tA\t.\n",
	} {
		checkRefusedText(t, s)
		checkRefusedText(t, sampleLine+s)
	}
	without := strings.TrimSuffix(sampleLine, "\n")
	for _, s := range []string{without, without + "\t\n", "\t" + sampleLine, without + "\r\n", sampleLine + "\n", "\n" + sampleLine, without + "\t.\n", sampleLine + without, sampleLine + " ", strings.Replace(sampleLine, "\t", "\t\t", 1), strings.ReplaceAll(sampleLine, "\t", " "), strings.Replace(sampleLine, "\t", "\n", 1), "\ufeff" + sampleLine} {
		checkRefusedText(t, s)
	}
	fields := strings.Split(without, "\t")
	for n := range fields {
		checkRefusedText(t, strings.Join(fields[:n], "\t")+"\n")
		checkRefusedText(t, strings.Join(fields[n+1:], "\t")+"\n")
		checkRefusedText(t, strings.Join(append(append([]string{}, fields[:n]...), fields[n+1:]...), "\t")+"\n")
	}
}

// Each byte of a text left out, doubled, and changed for each other.
func TestParseOfTextsWithOneByteChanged(t *testing.T) {
	const s = "x\tunmapped\n" + sampleLine + "y-1\tambiguous\nr\taligned\tCTOT\tc\t4096\t0\tN\tZ\n"
	right := 0
	for i := range len(s) {
		checkText(t, s[:i])
		checkText(t, s[i:])
		checkText(t, s[:i]+s[i+1:])
		for n := range 256 {
			c := string([]byte{byte(n)})
			if checkText(t, s[:i]+c+s[i+1:]) {
				right++
			}
			if checkText(t, s[:i]+c+s[i:]) {
				right++
			}
		}
	}
	if right == 0 {
		t.Error("no changed text is right")
	}
}

// Texts put together of pieces: some are right, and most are not.
func TestParseOfDrawnTexts(t *testing.T) {
	r := rand.New(rand.NewSource(8))
	pieces := []string{"x", "\t", "\t", "\t", "\n", "aligned", "unmapped", "ambiguous", "OT", "CTOB", "0", "1", "10", "ACG", ".zU", sampleLine, "x\tunmapped\n", "r\taligned\tOT\tc\t", "1\t0\tA\t.", "", "\x00", "\xff"}
	right := 0
	for range 30000 {
		s := ""
		for range r.Intn(9) {
			s += pieces[r.Intn(len(pieces))]
		}
		if checkText(t, s) {
			right++
		}
	}
	if right < 100 {
		t.Errorf("only %d texts are right", right)
	}
}

func TestParseOfLongTexts(t *testing.T) {
	for _, c := range []string{"\t", "x", "\n", "x\t", "\t\n", "1", "A"} {
		s := strings.Repeat(c, 1<<18)
		checkRefusedText(t, s)
		checkRefusedText(t, sampleLine+s)
		checkRefusedText(t, s+"\n")
	}
}
