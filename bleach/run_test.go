package bleach_test

import (
	"bytes"
	"fmt"
	"math"
	"math/rand"
	"slices"
	"strings"
	"testing"

	"bleach/api"
	"bleach/bleach"
	"bleach/seqs"
)

// answer: all that Run answers.
type answer struct {
	text   string
	counts api.Counts
	errno  api.Errno
	at     int
}

// run hands texts in with room behind them, and writes over all of that before it gives the answer: what the answer kept of it would be seen (P1).
func run(t *testing.T, fasta, fastq string, s api.Setting) answer {
	t.Helper()
	const room = "\nACGT>x@y+\n"
	one, two := []byte(fasta+room), []byte(fastq+room)
	defer func() {
		if p := recover(); p != nil {
			t.Fatalf("P1: Run(%.80q, %.80q, %v) panics: %v", fasta, fastq, s, p)
		}
	}()
	var got answer
	got.text, got.counts, got.errno, got.at = bleach.Run(one[:len(fasta)], two[:len(fastq)], s)
	if string(one) != fasta+room || string(two) != fastq+room {
		t.Fatalf("P1: Run(%.80q, %.80q, %v) writes into what is handed in", fasta, fastq, s)
	}
	copy(one, bytes.Repeat([]byte("#"), len(one)))
	copy(two, bytes.Repeat([]byte("#"), len(two)))
	return got
}

func checkRun(t *testing.T, fasta, fastq string, s api.Setting, want answer) {
	t.Helper()
	if got := run(t, fasta, fastq, s); got != want {
		t.Fatalf("P9: Run(%.80q, %.80q, %v) = %.300q, %+v, %d, %d, want %.300q, %+v, %d, %d", fasta, fastq, s, got.text, got.counts, got.errno, got.at, want.text, want.counts, want.errno, want.at)
	}
}

// checkRunByAll checks one answer for every number of workers.
func checkRunByAll(t *testing.T, fasta, fastq string, budget int, want answer) {
	t.Helper()
	for workers := 1; workers <= 16; workers++ {
		checkRun(t, fasta, fastq, api.Setting{Budget: budget, Workers: workers}, want)
	}
}

// fastaOf names the contigs as the model does.
func fastaOf(refs ...string) string {
	text := ""
	for i, letters := range refs {
		text += ">" + contigName(i) + "\n" + letters + "\n"
	}
	return text
}

func readName(n int) string { return fmt.Sprintf("r%d", n) }

func fastqOf(reads ...string) string {
	text := ""
	for i, letters := range reads {
		text += "@" + readName(i) + "\n" + letters + "\n+\n" + strings.Repeat("I", len(letters)) + "\n"
	}
	return text
}

// modelLine does not go by Render.
func modelLine(r api.Record) string {
	word := []string{"unmapped", "aligned", "ambiguous"}[r.Verdict]
	if r.Verdict != api.Aligned {
		return r.Name + "\t" + word + "\n"
	}
	return fmt.Sprintf("%s\t%s\t%s\t%s\t%d\t%d\t%s\t%s\n", r.Name, word, []string{"", "OT", "OB", "CTOT", "CTOB"}[r.Strand], r.Contig, r.At, r.Mismatches, r.Letters, r.Calls)
}

func modelRecords(refs, reads []string, budget int) []api.Record {
	var all []api.Record
	for i, letters := range reads {
		all = append(all, modelAlign(refs, readName(i), letters, budget))
	}
	return all
}

// modelRun is P9 by its words, for texts that may be: it writes all lines, and only then counts.
func modelRun(refs, reads []string, budget int) answer {
	var want answer
	calls, verdicts := "", [3]int{}
	for _, r := range modelRecords(refs, reads, budget) {
		want.text += modelLine(r)
		calls += r.Calls
		verdicts[r.Verdict]++
	}
	want.counts = api.Counts{Unmapped: verdicts[0], Aligned: verdicts[1], Ambiguous: verdicts[2]}
	for i := range 4 {
		want.counts.Kept[i] = strings.Count(calls, "ZXHU"[i:i+1])
		want.counts.Turned[i] = strings.Count(calls, "zxhu"[i:i+1])
	}
	return want
}

// checkRunOf holds Run against the model, for every number of workers.
func checkRunOf(t *testing.T, refs, reads []string, budget int) answer {
	t.Helper()
	want := modelRun(refs, reads, budget)
	checkRunByAll(t, fastaOf(refs...), fastqOf(reads...), budget, want)
	return want
}

func TestRunOfTheExamples(t *testing.T) {
	const reads = "@a\nATGT\n+\nIIII\n@b\nACGT\n+\n!!!!\n@c\nTTTG\n+\n~~~~\n@d\nNNNN\n+\n@@@@\n"
	checkRunByAll(t, ">one\nACGTTCGA\n", reads, 0, answer{
		text:   "a\tambiguous\nb\tambiguous\nc\taligned\tOT\tone\t3\t0\tTTTG\t..z.\nd\tunmapped\n",
		counts: api.Counts{Unmapped: 1, Aligned: 1, Ambiguous: 2, Turned: [4]int{1, 0, 0, 0}},
	})
	checkRunByAll(t, ">one\nACGT\ntTCga\n", "@c\nttTg\n+\nIIII\n", 0, answer{
		text:   "c\taligned\tOT\tone\t4\t0\tTTTG\t..z.\n",
		counts: api.Counts{Aligned: 1, Turned: [4]int{1, 0, 0, 0}},
	})
}

// One read from each strand of one place, and one of each other verdict. Names may be there twice.
func TestRunOnEachStrandAndOfEachVerdict(t *testing.T) {
	const top, bottom = "AATGACATAGTGG", "AACGACATAATGG"
	reads := "@top\n" + top + "\n+\nIIIIIIIIIIIII\n" +
		"@q\nAACC\n+\nIIII\n" +
		"@of.top\n" + turnedRound(top) + "\n+\nIIIIIIIIIIIII\n" +
		"@q\nGGGGGG\n+\nIIIIII\n" +
		"@of_bottom\n" + bottom + "\n+\nIIIIIIIIIIIII\n" +
		"@bottom-1\n" + turnedRound(bottom) + "\n+\nIIIIIIIIIIIII\n" +
		"@q\nAACC\n+\nIIII\n"
	checkRunByAll(t, ">x\nTTAAC\n>chr-1\nTTAACGAC\nATAGTGG\nATAACC\n", reads, 0, answer{
		text: "top\taligned\tOT\tchr-1\t2\t0\tAATGACATAGTGG\t..z..H.......\n" +
			"q\tambiguous\n" +
			"of.top\taligned\tCTOT\tchr-1\t2\t0\tAATGACATAGTGG\t..z..H.......\n" +
			"q\tunmapped\n" +
			"of_bottom\taligned\tCTOB\tchr-1\t2\t0\tAACGACATAATGG\t...Z.....h.HH\n" +
			"bottom-1\taligned\tOB\tchr-1\t2\t0\tAACGACATAATGG\t...Z.....h.HH\n" +
			"q\tambiguous\n",
		counts: api.Counts{Unmapped: 1, Aligned: 4, Ambiguous: 2, Kept: [4]int{2, 0, 6, 0}, Turned: [4]int{2, 0, 2, 0}},
	})
}

// Each kind alone, on each strand. All reads have one call of a turned h, which tells the strand, and behind it the one that is looked at; none of the numbers of reads is another's.
func TestRunCountsEachKindOfCall(t *testing.T) {
	const ahead, turned = "TTTGATTAGACATA", "TTTGATTAGATATA" // one call: the C is followed by AT
	follows := [4]string{"GA", "AG", "AA", ""}
	for strand := api.OT; strand <= api.CTOB; strand++ {
		for kind, follow := range follows {
			ref := ahead + "C" + follow
			var reads []string
			for range 3 + kind {
				reads = append(reads, turned+"C")
			}
			for range 11 + kind {
				reads = append(reads, turned+"T")
			}
			want := api.Counts{Aligned: 14 + 2*kind}
			want.Turned[2] = 14 + 2*kind
			want.Kept[kind] += 3 + kind
			want.Turned[kind] += 11 + kind
			if !isTop(strand) {
				ref = turnedRound(ref)
			}
			for i, s := range reads {
				if strand == api.CTOT || strand == api.CTOB {
					reads[i] = turnedRound(s)
				}
			}
			got := checkRunOf(t, []string{ref}, reads, 0)
			if got.counts != want || strings.Count(got.text, "\t"+[]string{"", "OT", "OB", "CTOT", "CTOB"}[strand]+"\t") != len(reads) {
				t.Errorf("P9: the counts of strand %d and kind %d are %+v, want %+v: %q", strand, kind, got.counts, want, got.text)
			}
		}
	}
}

// All eight at once, and no two of the numbers are the same.
func TestRunCountsAllKindsOfCalls(t *testing.T) {
	const ref = "CATTAGCGTTTACAGTTAGCATTTGATC"
	kept, turned := [4]int{}, [4]int{}
	var reads []string
	places := [4]int{6, 12, 19, 27} // of a C of each kind; the first C, which tells the strand, is an h too
	for kind, place := range places {
		for n := range 8 {
			s := []byte(strings.ReplaceAll(ref, "C", "T"))
			if n <= kind {
				s[place] = 'C'
				kept[kind]++
			}
			reads = append(reads, string(s))
		}
	}
	for kind := range 4 {
		turned[kind] = len(reads) - kept[kind]
	}
	turned[2] += len(reads)
	want := api.Counts{Aligned: len(reads), Kept: kept, Turned: turned}
	if got := checkRunOf(t, []string{ref}, reads, 0); got.counts != want || kept != [4]int{1, 2, 3, 4} || turned != [4]int{31, 30, 61, 28} {
		t.Errorf("P9: the counts are %+v, want %+v", got.counts, want)
	}
}

func TestRunOfNoReads(t *testing.T) {
	for budget := 0; budget <= 3; budget++ {
		checkRunByAll(t, ">one\nACGTTCGA\n", "", budget, answer{})
	}
	for workers := 1; workers <= 16; workers++ {
		text, counts, e, at := bleach.Run([]byte(">one\nA\n"), nil, api.Setting{Workers: workers})
		if text != "" || counts != (api.Counts{}) || e != api.OK || at != 0 {
			t.Errorf("P9: Run of no reads with %d workers = %q, %+v, %d, %d", workers, text, counts, e, at)
		}
	}
}

// The same reads and fewer: from fewer than there are workers to more.
func TestRunOfFewReads(t *testing.T) {
	refs := []string{"ACGTTCGATTACAGC", "GGNCAT"}
	reads := words("ACGT", 3)
	for n := range 40 {
		checkRunOf(t, refs, reads[:n], n%4)
		checkRunOf(t, refs, reads[len(reads)-n:], n%4)
	}
}

// Reads with as many wrong letters as the budget, and one more.
func TestRunAtEachBudget(t *testing.T) {
	refs := []string{"CAGTCATTACGGATCCA"}
	const turned = "TAGTTATTATGGATTTA"
	var reads []string
	for n := range 5 {
		s := turned[:3] + strings.Repeat("N", n) + turned[3+n:]
		reads = append(reads, s, turnedRound(s))
	}
	for budget := 0; budget <= 3; budget++ {
		want := api.Counts{Aligned: 2 + 2*budget, Unmapped: 8 - 2*budget}
		got := checkRunOf(t, refs, reads, budget)
		if got.counts.Aligned != want.Aligned || got.counts.Unmapped != want.Unmapped {
			t.Errorf("P9: with the budget %d the counts are %+v", budget, got.counts)
		}
	}
}

// drawnTexts gives contigs and as many reads, of each verdict and strand.
func drawnTexts(r *rand.Rand, contigs, reads int) (refs, letters []string) {
	for range contigs {
		refs = append(refs, drawn(r, "ACGT", 20+r.Intn(40))+drawn(r, "ACGTN", r.Intn(9)))
	}
	for range reads {
		letters = append(letters, drawnRead(r, refs))
	}
	return refs, letters
}

func TestRunOfDrawnTexts(t *testing.T) {
	r := rand.New(rand.NewSource(14))
	var all api.Counts
	for range 40 {
		refs, reads := drawnTexts(r, 1+r.Intn(api.MaxContigs), r.Intn(40))
		for budget := 0; budget <= 3; budget++ {
			c := checkRunOf(t, refs, reads, budget).counts
			all.Unmapped, all.Aligned, all.Ambiguous = all.Unmapped+c.Unmapped, all.Aligned+c.Aligned, all.Ambiguous+c.Ambiguous
			for i := range 4 {
				all.Kept[i] += c.Kept[i]
				all.Turned[i] += c.Turned[i]
			}
		}
	}
	if all.Unmapped == 0 || all.Aligned == 0 || all.Ambiguous == 0 || slices.Contains(all.Kept[:], 0) || slices.Contains(all.Turned[:], 0) {
		t.Errorf("not all was drawn: %+v", all)
	}
}

// What is answered does not hang on how the workers go: the same again and again, with as many reads as there may be.
func TestRunAgainAndAgain(t *testing.T) {
	r := rand.New(rand.NewSource(15))
	refs, reads := drawnTexts(r, 5, api.MaxReads)
	for range 12 {
		checkRunOf(t, refs, reads, 1)
	}
}

// As many contigs, letters and reads as there may be, names and reads as long as they may be.
func TestRunAtTheBoundsOfTexts(t *testing.T) {
	r := rand.New(rand.NewSource(16))
	name := strings.Repeat("n", api.MaxName-2)
	fasta, fastq, want := "", "", answer{}
	share := api.MaxLetters / api.MaxContigs
	for i := range api.MaxContigs {
		ref := drawn(r, "ACGT", share)
		fasta += fmt.Sprintf(">%s%02d\n%s\n", name, i, ref)
		for n := range api.MaxReads / api.MaxContigs {
			s := strings.ReplaceAll(ref[n*8:n*8+api.MaxRead], "C", "T")
			calls := modelCalls(s, ref, n*8, api.OT)
			fastq += "@" + name + ".q\n" + s + "\n+\n" + strings.Repeat("~", api.MaxRead) + "\n"
			want.text += fmt.Sprintf("%s.q\taligned\tOT\t%s%02d\t%d\t0\t%s\t%s\n", name, name, i, n*8, s, calls)
			for k := range 4 {
				want.counts.Turned[k] += strings.Count(calls, "zxhu"[k:k+1])
			}
		}
	}
	want.counts.Aligned = api.MaxReads
	for budget := 0; budget <= 3; budget++ {
		checkRunByAll(t, fasta, fastq, budget, want)
	}
}

// Every read stands at every place.
func TestRunOfReadsThatStandEverywhere(t *testing.T) {
	fasta, fastq := ">a\n"+strings.Repeat("A", api.MaxLetters)+"\n", fastqOf(slices.Repeat([]string{strings.Repeat("A", api.MaxRead)}, api.MaxReads)...)
	got := run(t, fasta, fastq, api.Setting{Budget: 3, Workers: 16})
	if got.counts != (api.Counts{Ambiguous: api.MaxReads}) || strings.Count(got.text, "\tambiguous\n") != api.MaxReads || got.errno != api.OK || got.at != 0 {
		t.Errorf("P9: Run of reads that stand everywhere: %.100q, %+v, %d, %d", got.text, got.counts, got.errno, got.at)
	}
}

// wrongFastas and wrongFastqs: wrong texts, with the error and the place.
func wrongFastas() map[string]answer {
	contigs := ""
	for i := range api.MaxContigs {
		contigs += fmt.Sprintf(">c%d\nA\n", i)
	}
	most := ">c\n" + strings.Repeat("A", api.MaxLetters)
	return map[string]answer{
		"":                            {errno: api.ErrFasta, at: 0},
		"x":                           {errno: api.ErrFasta, at: 0},
		">one\nAXG\n":                 {errno: api.ErrFasta, at: 6},
		">one\nACG":                   {errno: api.ErrFasta, at: 8},
		">one\n":                      {errno: api.ErrFasta, at: 5},
		">one\nACG\n\n":               {errno: api.ErrFasta, at: 9},
		">one\nACG\n>two\nA\n>one\nC": {errno: api.ErrTwice, at: 17},
		contigs + ">":                 {errno: api.ErrMany, at: len(contigs)},
		most + "A\n":                  {errno: api.ErrMany, at: len(most)},
		most + "\n>d\nx":              {errno: api.ErrFasta, at: len(most) + 4},
	}
}

func wrongFastqs() map[string]answer {
	long := "@r\n" + strings.Repeat("A", api.MaxRead)
	many := strings.Repeat("@r\nA\n+\nI\n", api.MaxReads)
	return map[string]answer{
		"x":                          {errno: api.ErrFastq, at: 0},
		"\n":                         {errno: api.ErrFastq, at: 0},
		"@":                          {errno: api.ErrFastq, at: 1},
		"@r\nAXG\n":                  {errno: api.ErrFastq, at: 4},
		"@r\nACG\n-\nIII\n":          {errno: api.ErrFastq, at: 7},
		"@r\nACG\n+\nII\n":           {errno: api.ErrQuality, at: 11},
		"@r\nACG\n+\nIIII\n":         {errno: api.ErrQuality, at: 12},
		"@r\nACG\n+\nIII":            {errno: api.ErrQuality, at: 12},
		"@r\nA\n+\nI\n@q\nA\n+\n \n": {errno: api.ErrQuality, at: 16},
		long + "A\n+\nI\n":           {errno: api.ErrLength, at: len(long)},
		many + "@":                   {errno: api.ErrMany, at: len(many)},
	}
}

const (
	rightFasta = ">one\nACGTTCGA\n"
	rightFastq = "@r\nTTTG\n+\nIIII\n"
)

// A wrong setting is told ahead of whatever is wrong with the texts.
func TestRunWithWrongSettings(t *testing.T) {
	fastas, fastqs := []string{rightFasta}, []string{rightFastq, ""}
	for s := range wrongFastas() {
		fastas = append(fastas, s)
	}
	for s := range wrongFastqs() {
		fastqs = append(fastqs, s)
	}
	var settings []api.Setting
	for _, n := range []int{-1, 4, 5, 255, 256, 1 << 32, -1 << 32, math.MinInt, math.MaxInt} {
		settings = append(settings, api.Setting{Budget: n, Workers: 1}, api.Setting{Budget: n, Workers: 16}, api.Setting{Budget: n})
	}
	for _, n := range []int{-1, 0, 17, 18, 256, 257, 1 << 32, 1<<32 + 1, -1<<32 + 1, math.MinInt, math.MinInt + 1, math.MaxInt} {
		settings = append(settings, api.Setting{Workers: n}, api.Setting{Budget: 3, Workers: n}, api.Setting{Budget: 4, Workers: n}, api.Setting{Budget: -1, Workers: n})
	}
	for _, s := range settings {
		for _, fasta := range fastas {
			for _, fastq := range fastqs {
				checkRun(t, fasta, fastq, s, answer{errno: api.ErrSetting})
			}
		}
	}
}

// What is wrong with the first text is told ahead of what is wrong with the second.
func TestRunOfWrongTexts(t *testing.T) {
	for _, s := range []api.Setting{{Workers: 1}, {Budget: 3, Workers: 16}, {Budget: 1, Workers: 2}} {
		for fasta, want := range wrongFastas() {
			checkRun(t, fasta, rightFastq, s, want)
			checkRun(t, fasta, "", s, want)
			for fastq := range wrongFastqs() {
				checkRun(t, fasta, fastq, s, want)
			}
		}
		for fastq, want := range wrongFastqs() {
			checkRun(t, rightFasta, fastq, s, want)
		}
	}
}

// The texts in each other's place.
func TestRunOfTextsChangedForOneAnother(t *testing.T) {
	checkRunByAll(t, rightFastq, rightFasta, 0, answer{errno: api.ErrFasta})
	checkRunByAll(t, rightFasta, rightFasta, 0, answer{errno: api.ErrFastq})
	checkRunByAll(t, rightFastq, rightFastq, 0, answer{errno: api.ErrFasta})
}

// checkAnyRun checks what P9 says of any texts at all: the error of the first that has one; else the model's answer.
func checkAnyRun(t *testing.T, fasta, fastq string, s api.Setting) (right bool) {
	t.Helper()
	contigs, e, at := seqs.Fasta([]byte(fasta))
	reads, f, place := seqs.Fastq([]byte(fastq))
	switch {
	case s.Budget < 0 || s.Budget > 3 || s.Workers < 1 || s.Workers > 16:
		checkRun(t, fasta, fastq, s, answer{errno: api.ErrSetting})
	case e != api.OK:
		checkRun(t, fasta, fastq, s, answer{errno: e, at: at})
	case f != api.OK:
		checkRun(t, fasta, fastq, s, answer{errno: f, at: place})
	default:
		checkRunOfNamed(t, fasta, fastq, contigs, reads, s)
		return true
	}
	return false
}

// checkRunOfNamed is for contigs and reads that are named otherwise than the model names them.
func checkRunOfNamed(t *testing.T, fasta, fastq string, contigs []api.Contig, reads []api.Read, s api.Setting) {
	t.Helper()
	var refs, letters []string
	for _, c := range contigs {
		refs = append(refs, c.Letters)
	}
	for _, r := range reads {
		letters = append(letters, r.Letters)
	}
	want := modelRun(refs, letters, s.Budget)
	want.text = ""
	for i, r := range modelRecords(refs, letters, s.Budget) {
		r.Name = reads[i].Name
		for n, c := range contigs {
			if r.Contig == contigName(n) {
				r.Contig = c.Name
				break
			}
		}
		want.text += modelLine(r)
	}
	checkRun(t, fasta, fastq, s, want)
}

// Texts with one byte left out, put in or changed for any other: most are wrong, and none makes it panic.
func TestRunOfTextsWithOneByteChanged(t *testing.T) {
	const fasta, fastq = ">one\nACGTT\ncga\n>c0\nCATTAC\n", "@r\nTTTG\n+\nIIII\n@-\ntattac\n+\n@>+!~I\n"
	s := api.Setting{Budget: 1, Workers: 3}
	right := 0
	try := func(fasta, fastq string) {
		if checkAnyRun(t, fasta, fastq, s) {
			right++
		}
	}
	for i := range len(fasta) {
		try(fasta[:i], fastq)
		try(fasta[:i]+fasta[i+1:], fastq)
		for c := range 256 {
			try(fasta[:i]+string([]byte{byte(c)})+fasta[i+1:], fastq)
			try(fasta[:i]+string([]byte{byte(c)})+fasta[i:], fastq)
		}
	}
	for i := range len(fastq) {
		try(fasta, fastq[:i])
		try(fasta, fastq[:i]+fastq[i+1:])
		for c := range 256 {
			try(fasta, fastq[:i]+string([]byte{byte(c)})+fastq[i+1:])
			try(fasta, fastq[:i]+string([]byte{byte(c)})+fastq[i:])
		}
	}
	if right == 0 {
		t.Error("no changed text is right")
	}
}

func TestRunOfAnyBytesAndNumbers(t *testing.T) {
	r := rand.New(rand.NewSource(17))
	numbers := []int{math.MinInt, -1, 0, 0, 1, 1, 2, 3, 3, 4, 15, 16, 17, 1 << 32, math.MaxInt}
	number := func() int { return numbers[r.Intn(len(numbers))] }
	pieces := []string{">", "@", "+", "\n", "\n", "x", "ACG", "TTcg", "IIII", "\x00", "\xff", ">x\nACG\n", ">y\nTTTG\n", "@x\nTTTG\n+\nIIII\n", "@y\nac\n+\n!~\n"}
	text := func() string {
		s := ""
		for range r.Intn(6) {
			s += pieces[r.Intn(len(pieces))]
		}
		return s
	}
	right := 0
	for range 20000 {
		fasta, fastq := text(), text()
		if r.Intn(2) == 0 {
			fasta = ">one\nACGTTCGATT\n" + fasta
		}
		if checkAnyRun(t, fasta, fastq, api.Setting{Budget: number(), Workers: number()}) {
			right++
		}
		checkAnyRun(t, drawn(r, ">\nACGTx\x00\xff", r.Intn(20)), drawn(r, "@\nACGT+I\x00\xff", r.Intn(20)), api.Setting{Budget: number(), Workers: number()})
	}
	if right < 50 {
		t.Errorf("only %d texts are right", right)
	}
	for _, c := range []string{">", "@", "A", "\n", "+", "\x00", ">a\nA\n", "@a\nA\n+\nI\n"} {
		long := strings.Repeat(c, 1<<16)
		checkAnyRun(t, long, long, api.Setting{Workers: 4})
		checkAnyRun(t, rightFasta, long, api.Setting{Workers: 4})
	}
	for _, fasta := range [][]byte{nil, {}, []byte(rightFasta)} {
		for _, fastq := range [][]byte{nil, {}, []byte(rightFastq)} {
			bleach.Run(fasta, fastq, api.Setting{Workers: 1})
			bleach.Run(fasta, fastq, api.Setting{})
		}
	}
}
