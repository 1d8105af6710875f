package bleach

import (
	"strconv"
	"strings"

	"bleach/api"
)

// lineOf writes a record that is right.
func lineOf(r api.Record) string {
	if r.Verdict != api.Aligned {
		return line(r.Name, verdictWords[r.Verdict])
	}
	return line(r.Name, verdictWords[r.Verdict], strandWords[r.Strand], r.Contig, strconv.Itoa(r.At), strconv.Itoa(r.Mismatches), r.Letters, r.Calls)
}

func line(fields ...string) string {
	return strings.Join(fields, "\t") + "\n"
}

// recordOf reads a line without its end. It holds what it has read against the line as it would be written: so a number with a 0 ahead, or fields of a record that has none, are found out.
func recordOf(text string) (api.Record, bool) {
	r := supposed(strings.Split(strings.Clone(text), "\t")...)
	if !isRight(r) || lineOf(r) != text+"\n" {
		return api.Record{}, false
	}
	return r, true
}

// supposed takes fields for what they have to be, and judges none of them. What is no number becomes 0, or the greatest one there is.
func supposed(fields ...string) api.Record {
	switch len(fields) {
	case 2:
		return api.Record{Name: fields[0], Verdict: verdictOf(fields[1])}
	case 8:
		at, _ := strconv.Atoi(fields[4])
		mismatches, _ := strconv.Atoi(fields[5])
		return api.Record{
			Name:       fields[0],
			Verdict:    verdictOf(fields[1]),
			Strand:     strandOf(fields[2]),
			Contig:     fields[3],
			At:         at,
			Mismatches: mismatches,
			Letters:    fields[6],
			Calls:      fields[7],
		}
	}
	return api.Record{}
}
