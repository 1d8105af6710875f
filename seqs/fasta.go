package seqs

import (
	"bleach/alphabet"
	"bleach/api"
)

// Fasta reads contigs (P2).
func Fasta(b []byte) ([]api.Contig, api.Errno, int) {
	var contigs []api.Contig
	var name string
	var letters []byte
	at, first, total := 0, 0, 0 // first: where the name or line that is being read begins

mark:
	if byteAt(b, at) != '>' {
		goto fault
	}
	if len(contigs) == api.MaxContigs {
		return nil, api.ErrMany, at
	}
	first = at + 1
	at = nameEnd(b, first)
	if at == first || byteAt(b, at) != '\n' {
		goto fault
	}
	// Not ahead of the line's end: a name counts as seen twice only in a line that may be.
	name = string(b[first:at])
	if hasName(contigs, name) {
		return nil, api.ErrTwice, first
	}
	letters = nil

nextLine:
	at++
	first = at

inLine:
	if c := alphabet.Capital(byteAt(b, at)); c != 0 {
		if total == api.MaxLetters {
			return nil, api.ErrMany, at
		}
		letters = append(letters, c)
		total++
		at++
		goto inLine
	}
	if byteAt(b, at) == '\n' && at > first {
		goto nextLine
	}
	if at > first || len(letters) == 0 {
		goto fault
	}
	// Here a line might begin, and none does: the contig is whole, and another one or the end must follow.
	contigs = append(contigs, api.Contig{Name: name, Letters: string(letters)})
	if at < len(b) {
		goto mark
	}
	return contigs, api.OK, 0

fault:
	return nil, api.ErrFasta, at
}

func hasName(contigs []api.Contig, name string) bool {
	for _, c := range contigs {
		if c.Name == name {
			return true
		}
	}
	return false
}
