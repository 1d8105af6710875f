package bleach

// The words stand at the numbers of what they name; no strand has the number 0.
var (
	verdictWords = [3]string{"unmapped", "aligned", "ambiguous"}
	strandWords  = [5]string{"", "OT", "OB", "CTOT", "CTOB"}
)

// verdictOf gives -1 for a word that is none: 0 is a verdict.
func verdictOf(word string) int {
	for verdict, w := range verdictWords {
		if w == word {
			return verdict
		}
	}
	return -1
}

func strandOf(word string) int {
	for strand, w := range strandWords {
		if w == word {
			return strand
		}
	}
	return 0
}
