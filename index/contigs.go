package index

import (
	"bleach/alphabet"
	"bleach/api"
	"bleach/seqs"
)

func areContigs(contigs []api.Contig) bool {
	for _, c := range contigs {
		if c.Letters == "" || !alphabet.AreLetters(c.Letters) {
			return false
		}
	}
	return len(contigs) > 0
}

// areTooMany takes the letters from what may be instead of adding them up: no sum can wrap round.
func areTooMany(contigs []api.Contig) bool {
	left := api.MaxLetters
	for _, c := range contigs {
		if len(c.Letters) > left {
			return true
		}
		left -= len(c.Letters)
	}
	return len(contigs) > api.MaxContigs
}

func converted(contigs []api.Contig, strand int) []string {
	all := make([]string, len(contigs))
	for i, c := range contigs {
		all[i] = convert(c.Letters, strand)
	}
	return all
}

// convert is for letters and strands that were looked at: there is nothing left that Convert could refuse.
func convert(letters string, strand int) string {
	out, _ := seqs.Convert(letters, strand)
	return out
}
