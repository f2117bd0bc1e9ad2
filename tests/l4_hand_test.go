package tests

import (
	"math"
	"testing"

	"loop.example/tuggers/impl"
)

func TestNumbersOfWhereAHandIs(t *testing.T) {
	got := []int{
		impl.PcIdle, impl.PcEpoch, impl.PcPin, impl.PcCheck, impl.PcHead, impl.PcNext, impl.PcUnlink, impl.PcRetire, impl.PcKey, impl.PcTake,
		impl.PcFill, impl.PcLink, impl.PcMark, impl.PcCut, impl.PcGive, impl.PcUnpin, impl.PcEnd, impl.PcRead, impl.PcScan, impl.PcAdvance,
		impl.PcLook, impl.PcFree, impl.PcTop, impl.PcAim, impl.PcPush, impl.PcBelow, impl.PcPop, impl.PcLast, impl.PcBehind, impl.PcHelp,
		impl.PcJoin, impl.PcSwing, impl.PcFirst, impl.PcAfter, impl.PcTail, impl.PcValue, impl.PcShift, impl.PcWalk, impl.PcCount, impl.PcPeek,
		impl.PcSee,
	}
	for want, pc := range got {
		if pc != want {
			t.Errorf("where a hand is is %d, want %d", pc, want)
		}
	}
}

// P22

func TestIdleHandIsAsked(t *testing.T) {
	for _, o := range ops() {
		for _, now := range []int{0, 1, 4, 1000000, 1000001, math.MaxInt} {
			wantBegin(t, impl.HndHand{}, o, now, impl.HndHand{Pc: 1, Op: o, Begin: now})
		}
	}
}

func TestIdleHandIsNotAskedAheadOfTime(t *testing.T) {
	for _, o := range ops() {
		for _, now := range []int{math.MinInt, -2, -1} {
			wantBegin(t, impl.HndHand{}, o, now, impl.HndHand{})
		}
	}
}

func TestIdleHandIsNotAskedWhatMayNotBe(t *testing.T) {
	for _, o := range wrongOps() {
		for _, now := range []int{-1, 0, 4} {
			wantBegin(t, impl.HndHand{}, o, now, impl.HndHand{})
		}
	}
}

func TestHandThatIsNearlyIdleStays(t *testing.T) {
	for name, h := range nearlyIdle() {
		for _, o := range ops() {
			for _, now := range []int{-1, 0, 4} {
				wantBegin(t, h, o, now, h, name)
			}
		}
	}
}

func TestHandThatIsNotIdleStays(t *testing.T) {
	for _, pc := range anyPcs() {
		hands := []impl.HndHand{busyHand(pc), {Pc: pc, Op: op(impl.OpPop), Begin: 1}}
		if pc != impl.PcIdle {
			hands = append(hands, impl.HndHand{Pc: pc})
		}
		for _, h := range hands {
			for _, o := range append(ops(), op(0), op(impl.OpGet, -1)) {
				for _, now := range []int{-1, 0, 4} {
					wantBegin(t, h, o, now, h)
				}
			}
		}
	}
}

func TestHandThatWasAskedStays(t *testing.T) {
	for _, first := range ops() {
		h := impl.HndBegin(impl.HndHand{}, first, 4)
		for _, second := range ops() {
			wantBegin(t, h, second, 5, h)
		}
	}
}

// P23

// touched is, by the document's numbers, which places hands touch there; at others they touch none.
func touched(h impl.HndHand) map[int]impl.HndRef {
	all := map[int]impl.HndRef{4: {}, 37: {}}
	for _, pc := range []int{5, 8, 12, 25, 28, 30, 33, 38} {
		all[pc] = h.Curr
	}
	for _, pc := range []int{6, 11, 13, 35} {
		all[pc] = h.Pred
	}
	for _, pc := range []int{10, 14, 23} {
		all[pc] = h.Own
	}
	return all
}

func TestTouchOfEachStep(t *testing.T) {
	for _, pc := range anyPcs() {
		h := busyHand(pc)
		want, ok := touched(h)[pc]
		wantTouch(t, h, want, ok)
	}
}

// What else a hand has does not matter: neither what it was asked, nor whether its answer is so.
func TestTouchOfEachKind(t *testing.T) {
	for _, pc := range anyPcs() {
		for _, o := range append(ops(), wrongOps()...) {
			for _, done := range []bool{false, true} {
				h := busyHand(pc)
				h.Op, h.Done = o, done
				want, ok := touched(h)[pc]
				wantTouch(t, h, want, ok, o, done)
			}
		}
	}
}

// Only at PcNext does it matter whether the hand holds a place.
func TestTouchOfAHandThatHoldsNothing(t *testing.T) {
	for _, pc := range anyPcs() {
		h := impl.HndHand{Pc: pc}
		_, ok := touched(h)[pc]
		wantTouch(t, h, impl.HndRef{}, ok && pc != 5)
	}
}

func TestTouchOfPlacesThatAreNone(t *testing.T) {
	for _, at := range []int{math.MinInt, -1, impl.ArnSize + 1, math.MaxInt} {
		for _, pc := range anyPcs() {
			ref := impl.HndRef{At: at, Gen: -1}
			h := impl.HndHand{Pc: pc, Pred: ref, Curr: ref, Own: ref}
			want, ok := touched(h)[pc]
			wantTouch(t, h, want, ok)
		}
	}
}

func TestTouchBehindTheLastPlace(t *testing.T) {
	for _, gen := range []int{-1, 0, 1, 6} {
		h := busyHand(5)
		h.Curr = impl.HndRef{Gen: gen}
		wantTouch(t, h, impl.HndRef{}, false, "at the end")
		for at := 1; at <= impl.ArnSize; at++ {
			h.Curr.At = at
			wantTouch(t, h, h.Curr, true, "at a place")
		}
	}
}

func TestTouchWithTheHeadAhead(t *testing.T) {
	for _, pc := range []int{6, 11, 13, 35} {
		h := busyHand(pc)
		h.Pred = impl.HndRef{}
		wantTouch(t, h, impl.HndRef{}, true, "the head")
	}
}
