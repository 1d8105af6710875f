package bleach

import (
	"strings"

	"bleach/api"
	"bleach/index"
	"bleach/seqs"
	"bleach/strands"
)

// candidate: a place and a strand at which a read stands, with its letters as they lie there.
type candidate struct {
	strand     int
	place      api.Place
	letters    string
	mismatches int
}

// choice: the first candidate with the least mismatches, and how many have as few as it (0: there is none).
type choice struct {
	best   candidate
	equals int
}

func (c *choice) weigh(other candidate) {
	switch {
	case c.equals == 0 || other.mismatches < c.best.mismatches:
		c.best, c.equals = other, 1
	case other.mismatches == c.best.mismatches:
		c.equals++
	}
}

// choose weighs the candidates of all strands. OT comes first, for which the letters lie as they are: what is wrong with them Find tells there, and Reverse sees none that could be refused.
func choose(contigs []api.Contig, x *index.Index, letters string, budget int) (choice, api.Errno) {
	var found choice
	for _, strand := range [...]int{api.OT, api.OB, api.CTOT, api.CTOB} {
		lying := along(letters, strand)
		places, errno := x.Find(lying, strand, budget)
		if errno != api.OK {
			return choice{}, errno
		}
		for _, place := range places {
			if lies(contigs, place, len(lying)) {
				reference := contigs[place.Contig].Letters[place.At:]
				found.weigh(candidate{strand, place, lying, mismatches(lying, reference, strand)})
			}
		}
	}
	return found, api.OK
}

// along gives a read's letters as they lie along the reference.
func along(letters string, strand int) string {
	if strand == api.OT || strand == api.CTOB {
		return letters
	}
	reversed, _ := seqs.Reverse(letters)
	return reversed
}

// lies holds of all places in the contigs that the index was made of. With others nothing is promised of the answer, but a panic is none.
func lies(contigs []api.Contig, place api.Place, n int) bool {
	return place.Contig < len(contigs) && place.At+n <= len(contigs[place.Contig].Letters)
}

func mismatches(letters, reference string, strand int) int {
	from, to := strands.Turned(strand)
	n := 0
	for i := range len(letters) {
		same := letters[i] == reference[i] && letters[i] != 'N'
		turned := letters[i] == to && reference[i] == from
		if !same && !turned {
			n++
		}
	}
	return n
}

// aligned copies the strings: an answer shares no memory with what was handed in.
func aligned(name string, contig api.Contig, c candidate) api.Record {
	return api.Record{
		Name:       name,
		Verdict:    api.Aligned,
		Strand:     c.strand,
		Contig:     strings.Clone(contig.Name),
		At:         c.place.At,
		Mismatches: c.mismatches,
		Letters:    strings.Clone(c.letters),
		Calls:      calls(c.letters, contig.Letters, c.place.At, c.strand),
	}
}
