package seqs_test

import (
	"bytes"
	"regexp"
	"sort"
	"strings"

	"bleach/api"
)

// The models say the same as the promises by other means: which texts may begin so, and what goes with which line. They are slow, and share no code with what they judge. The bounds are written out, so that they fail if package api's change.

type fault struct {
	at    int
	errno api.Errno
}

// firstFault takes the faults in the order in which the promise names their errors.
func firstFault(faults []fault) fault {
	sort.SliceStable(faults, func(i, k int) bool { return faults[i].at < faults[k].at })
	return faults[0]
}

// firstWrong: the first byte with which no right text goes on; the length of s, if there is none.
func firstWrong(s string, mayBegin func(string) bool) int {
	return sort.Search(len(s)+1, func(n int) bool { return !mayBegin(s[:n]) }) - 1
}

const (
	nameRule   = `[A-Za-z0-9_.-]`
	letterRule = `[ACGTNacgtn]`
	contigRule = `(?:>` + nameRule + `{1,32}\n(?:` + letterRule + `+\n)+)`
)

var (
	contigsWhole = regexp.MustCompile(`\A` + contigRule + `+\z`)
	contigsBegun = regexp.MustCompile(`\A` + contigRule + `*(?:>` + nameRule + `{0,32}|>` + nameRule + `{1,32}\n(?:` + letterRule + `+\n)*` + letterRule + `*)?\z`)
	nameLine     = regexp.MustCompile(`\A@` + nameRule + `{1,32}\z`)
	nameBegun    = regexp.MustCompile(`\A(?:@` + nameRule + `{0,32})?\z`)
	letterLine   = regexp.MustCompile(`\A` + letterRule + `+\z`)
	letterBegun  = regexp.MustCompile(`\A` + letterRule + `*\z`)
)

func modelFasta(s string) ([]api.Contig, api.Errno, int) {
	var faults []fault
	may := s
	if !contigsWhole.MatchString(s) {
		at := firstWrong(s, contigsBegun.MatchString)
		faults = append(faults, fault{at, api.ErrFasta})
		may = s[:at]
	}
	var contigs []api.Contig
	offset, total := 0, 0
	seen := map[string]bool{}
	for _, line := range strings.SplitAfter(may, "\n") {
		text, ended := strings.CutSuffix(line, "\n")
		if name, ok := strings.CutPrefix(text, ">"); ok {
			if ended && seen[name] {
				faults = append(faults, fault{offset + 1, api.ErrTwice})
			}
			if len(contigs) == 16 {
				faults = append(faults, fault{offset, api.ErrMany})
			}
			seen[name] = true
			contigs = append(contigs, api.Contig{Name: name})
		} else if len(contigs) > 0 {
			if total <= 4096 && total+len(text) > 4096 {
				faults = append(faults, fault{offset + 4096 - total, api.ErrMany})
			}
			total += len(text)
			contigs[len(contigs)-1].Letters += strings.ToUpper(text)
		}
		offset += len(line)
	}
	if len(faults) > 0 {
		f := firstFault(faults)
		return nil, f.errno, f.at
	}
	return contigs, api.OK, 0
}

// readsBegun: whether some text of reads begins with s.
func readsBegun(s string) bool {
	lines := strings.Split(s, "\n")
	rest := lines[len(lines)-1]
	lines = lines[:len(lines)-1]
	for i, l := range lines {
		if !readLine(lines[:i], l) {
			return false
		}
	}
	switch len(lines) % 4 {
	case 0:
		return nameBegun.MatchString(rest)
	case 1:
		return letterBegun.MatchString(rest)
	case 2:
		return rest == "" || rest == "+"
	}
	return areQualities(rest) && len(rest) <= len(lines[len(lines)-2])
}

// readLine: whether l may be the whole line that comes behind those.
func readLine(behind []string, l string) bool {
	switch len(behind) % 4 {
	case 0:
		return nameLine.MatchString(l)
	case 1:
		return letterLine.MatchString(l)
	case 2:
		return l == "+"
	}
	return areQualities(l) && len(l) == len(behind[len(behind)-2])
}

func areQualities(s string) bool {
	return bytes.IndexFunc([]byte(s), func(r rune) bool { return r < '!' || r > '~' }) < 0
}

func modelFastq(s string) ([]api.Read, api.Errno, int) {
	var faults []fault
	at := firstWrong(s, readsBegun)
	may := s[:at]
	switch ends := strings.Count(may, "\n"); {
	case at == len(s) && ends%4 == 0 && (s == "" || strings.HasSuffix(s, "\n")):
	case ends%4 == 3:
		faults = append(faults, fault{at, api.ErrQuality})
	default:
		faults = append(faults, fault{at, api.ErrFastq})
	}
	var reads []api.Read
	offset := 0
	for i, line := range strings.SplitAfter(may, "\n") {
		text := strings.TrimSuffix(line, "\n")
		switch {
		case i%4 == 0 && text != "":
			if len(reads) == 256 {
				faults = append(faults, fault{offset, api.ErrMany})
			}
			reads = append(reads, api.Read{Name: text[1:]})
		case i%4 == 1:
			if len(text) > 128 {
				faults = append(faults, fault{offset + 128, api.ErrLength})
			}
			reads[len(reads)-1].Letters = strings.ToUpper(text)
		}
		offset += len(line)
	}
	if len(faults) > 0 {
		f := firstFault(faults)
		return nil, f.errno, f.at
	}
	return reads, api.OK, 0
}
