package api

import "testing"

func TestNumbersAreTheDocuments(t *testing.T) {
	for want, got := range []Errno{OK, ErrSetting, ErrFasta, ErrTwice, ErrMany, ErrFastq, ErrQuality, ErrLength, ErrLetter, ErrRecord} {
		if int(got) != want {
			t.Errorf("the error that should have the number %d has %d", want, got)
		}
	}
	if OT != 1 || OB != 2 || CTOT != 3 || CTOB != 4 {
		t.Error("strands:", OT, OB, CTOT, CTOB)
	}
	if Unmapped != 0 || Aligned != 1 || Ambiguous != 2 {
		t.Error("verdicts:", Unmapped, Aligned, Ambiguous)
	}
	if MaxName != 32 || MaxContigs != 16 || MaxLetters != 4096 || MaxReads != 256 || MaxRead != 128 || MaxBudget != 3 || MaxWorkers != 16 {
		t.Error("bounds:", MaxName, MaxContigs, MaxLetters, MaxReads, MaxRead, MaxBudget, MaxWorkers)
	}
}
