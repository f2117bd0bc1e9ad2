package tests

import (
	"testing"

	"loop.example/tuggers/impl"
)

// "A place below 0 or past an end is none."

func TestJustAskedWithNoPlaceOfItsOwn(t *testing.T) {
	for _, none := range noPlaces() {
		w := impl.WldCall(impl.WldNew(), 0, op(impl.OpGet, 5))
		w.Hands[0].Own = none
		wantWorldOk(t, w, true, none)
		is := impl.WldStep(w, 0)
		if is.Clock != 1 || len(is.Hands) != impl.PolHands || is.Hands[0].Pc != impl.PcPin {
			t.Errorf("of %v: a step leaves %+v", none, is)
		}
		is = impl.WldCall(w, 1, popOp)
		if len(is.Hands) != impl.PolHands || is.Hands[1].Op != popOp || is.Hands[0] != w.Hands[0] {
			t.Errorf("of %v: to be asked leaves %+v", none, is)
		}
	}
}

// Who is idle has nothing else, and so no place that is none either.
func TestIdleHandsHoldNotEvenNone(t *testing.T) {
	for _, field := range heldFields() {
		for _, none := range noPlaces() {
			w := impl.WldNew()
			*field(&w.Hands[2]) = none
			wantWorldOk(t, w, false, "idle, with", none)
		}
	}
}

// heldFields are the places of a hand of which it may have none.
func heldFields() []func(*impl.HndHand) *impl.HndRef {
	return []func(*impl.HndHand) *impl.HndRef{currOf, ownOf, oldOf}
}

// holdsNone puts none where a hand holds a place.
func holdsNone(w impl.WldWorld, field func(*impl.HndHand) *impl.HndRef, none impl.HndRef) impl.WldWorld {
	w = cloneWorld(w)
	*field(&w.Hands[acting]) = none
	return w
}

// wantSameStep does a step of a hand that holds none, however that is written, and of one that holds nothing at all: both leave the same, but for what was not turned.
func wantSameStep(t *testing.T, w impl.WldWorld, field func(*impl.HndHand) *impl.HndRef, of ...any) {
	t.Helper()
	bare := holdsNone(w, field, impl.HndRef{})
	want := impl.WldStep(bare, acting)
	for _, none := range noPlaces() {
		got := impl.WldStep(holdsNone(w, field, none), acting)
		if len(got.Hands) == impl.PolHands && *field(&got.Hands[acting]) == none {
			*field(&got.Hands[acting]) = impl.HndRef{}
		}
		wantWorld(t, got, want, of, none)
	}
}

func TestStepsOfWhoHoldsNone(t *testing.T) {
	for name, c := range stepCases() {
		for n, field := range heldFields() {
			wantSameStep(t, c.world(), field, name, n)
		}
	}
}

// What leads to none leads to what was seen as none.
func TestStepsThatMeetNone(t *testing.T) {
	for _, none := range noPlaces() {
		noCurr := func(_ *impl.WldWorld, h *impl.HndHand) { h.Curr = none }
		in := and(ownIs(0), becomesSo(yes(0)), to(impl.PcUnpin))
		all := cases{}
		all.add(impl.PcPush, pushOp, "on none", and(noCurr, topIs(0)), topIs(3), in)
		all.add(impl.PcPush, pushOp, "there is a top by now", noCurr, to(impl.PcTop))
		all.add(impl.PcAim, pushOp, "at none", and(noCurr, wordIs(3, 16)), wordIs(3, 0), to(impl.PcPush))
		all.add(impl.PcFill, putOp, "ahead of none", and(noCurr, wordIs(3, 16)), func(w *impl.WldWorld, _ *impl.HndHand) {
			w.Arena.Nodes[3].Key, w.Arena.Nodes[3].Val, w.Arena.Nodes[3].Word = putOp.Key, putOp.Val, 0
		}, to(impl.PcLink))
		all.add(impl.PcLink, putOp, "behind the last", and(noCurr, predIs(2)), swapped(2, 6), in)
		all.add(impl.PcNext, getOp, "none", noCurr, tells(no), done, to(impl.PcUnpin))
		all.add(impl.PcRetire, delOp, "is at its end", and(noCurr, done), takenIs(acting, 7, 2, 9, epochThen), oldIs(0), to(impl.PcUnpin))
		checkSteps(t, all)
	}
}
