package tests

import (
	"testing"

	"loop.example/tuggers/impl"
)

// P13

func TestWordOfPlaceAndMark(t *testing.T) {
	for to := 0; to <= impl.ArnSize; to++ {
		for bit, mark := range []bool{false, true} {
			w := impl.WrdMake(to, mark)
			if w != 2*to+bit {
				t.Errorf("WrdMake(%d, %v) is %d", to, mark, w)
			}
			if impl.WrdTo(w) != to || impl.WrdMark(w) != mark {
				t.Errorf("the word %d of %d and %v leads to %d, marked %v", w, to, mark, impl.WrdTo(w), impl.WrdMark(w))
			}
		}
	}
}

func TestPlaceAndMarkOfWord(t *testing.T) {
	for w := 0; w <= 2*impl.ArnSize+1; w++ {
		to, mark := impl.WrdTo(w), impl.WrdMark(w)
		if to != w/2 || mark != (w%2 == 1) {
			t.Errorf("the word %d leads to %d, marked %v", w, to, mark)
		}
		if impl.WrdMake(to, mark) != w {
			t.Errorf("WrdMake(%d, %v) is %d, not %d", to, mark, impl.WrdMake(to, mark), w)
		}
	}
}

func TestNoPlaceHasNoWord(t *testing.T) {
	for _, to := range append(beyond, impl.ArnSize+1, 2*impl.ArnSize, 2*impl.ArnSize+1) {
		for _, mark := range []bool{false, true} {
			if w := impl.WrdMake(to, mark); w != 0 {
				t.Errorf("WrdMake(%d, %v) is %d", to, mark, w)
			}
		}
	}
}

func TestNoWordLeadsNowhere(t *testing.T) {
	for _, w := range beyond {
		if to, mark := impl.WrdTo(w), impl.WrdMark(w); to != 0 || mark {
			t.Errorf("the word %d leads to %d, marked %v", w, to, mark)
		}
	}
}
