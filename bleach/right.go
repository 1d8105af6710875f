package bleach

import (
	"bleach/alphabet"
	"bleach/api"
	"bleach/strands"
)

// isRight tells whether a record is right, as P8 says it.
func isRight(r api.Record) bool {
	if !alphabet.IsName(r.Name) {
		return false
	}
	switch r.Verdict {
	case api.Aligned:
		return strands.Is(r.Strand) && alphabet.IsName(r.Contig) && isWithin(r.At, api.MaxLetters) && areRead(r.Letters) &&
			isWithin(r.Mismatches, len(r.Letters)) && len(r.Calls) == len(r.Letters) && areCalls(r.Calls)
	case api.Unmapped, api.Ambiguous:
		return r == api.Record{Name: r.Name, Verdict: r.Verdict}
	}
	return false
}

func isWithin(n, most int) bool {
	return 0 <= n && n <= most
}

func areRead(letters string) bool {
	return 1 <= len(letters) && len(letters) <= api.MaxRead && alphabet.AreLetters(letters)
}

func areCalls(s string) bool {
	for i := range len(s) {
		switch s[i] {
		case '.', 'z', 'x', 'h', 'u', 'Z', 'X', 'H', 'U':
		default:
			return false
		}
	}
	return true
}
