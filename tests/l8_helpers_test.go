package tests

import (
	"slices"
	"testing"

	"loop.example/tuggers/impl"
)

// The four below are the document's words of audits, by no function of the program but WldOk.

// plainTouch is of a world with so many hands and places as there are to be, and of a hand that there is.
func plainTouch(w impl.WldWorld, k int) bool {
	h := w.Hands[k]
	r, touches := touched(h)[h.Pc]
	if !touches || h.Pc == 5 && h.Curr.At == 0 {
		return true
	}
	if r.At < 0 || r.At > 9 {
		return false
	}
	return w.Arena.Nodes[r.At].Used && w.Arena.Nodes[r.At].Gen == r.Gen
}

func plainHeld(w impl.WldWorld) []int {
	var held []int
	for _, h := range w.Hands {
		if isPlaceAt(h.Own) {
			held = append(held, h.Own.At)
		}
		if isPlaceAt(h.Old) {
			held = append(held, h.Old.At)
		}
	}
	return held
}

// found is, place by place, in how many there it is of: map, stack and queue; taken out; held, as often as it is; not in use. It is of a world that is ok.
func found(w impl.WldWorld) [impl.ArnSize + 1]int {
	var count [impl.ArnSize + 1]int
	a := w.Arena
	for _, first := range []int{a.Nodes[0].Word / 2, a.Top, a.First} {
		for at := first; at != 0; at = a.Nodes[at].Word / 2 {
			count[at]++
		}
	}
	for _, taken := range w.Pool.Limbo {
		for _, old := range taken {
			count[old.Node]++
		}
	}
	for _, at := range plainHeld(w) {
		count[at]++
	}
	for at, n := range a.Nodes {
		if !n.Used {
			count[at]++
		}
	}
	return count
}

func plainLost(w impl.WldWorld) []int {
	if !impl.WldOk(w) {
		return nil
	}
	var lost []int
	for at, times := range found(w) {
		if at != 0 && times == 0 {
			lost = append(lost, at)
		}
	}
	return lost
}

func plainTwice(w impl.WldWorld) bool {
	if !impl.WldOk(w) {
		return false
	}
	all := found(w)
	return slices.Max(all[1:]) > 1
}

func wantStillThere(t *testing.T, w impl.WldWorld, k int, want bool, of ...any) {
	t.Helper()
	if got := impl.AudTouch(w, k); got != want {
		t.Errorf("what hand %d touches is there: %v, want %v, of %v", k, got, want, of)
	}
}

func wantHeld(t *testing.T, w impl.WldWorld, want []int, of ...any) {
	t.Helper()
	wantInts(t, impl.AudHeld(w), want, "held", of)
}

// wantAudit is which places are lost, and whether one is in two.
func wantAudit(t *testing.T, w impl.WldWorld, lost []int, twice bool, of ...any) {
	t.Helper()
	wantInts(t, impl.AudLost(w), lost, "lost", of)
	if got := impl.AudTwice(w); got != twice {
		t.Errorf("one is in two: %v, want %v, of %v", got, twice, of)
	}
}
