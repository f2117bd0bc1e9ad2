package tests

import (
	"testing"

	"loop.example/tuggers/impl"
)

// In a busy world the stack is at places 8 and 1, the queue at 6 and 5.

// The rows from PcTop to PcPop, and PcPeek.
func stackCases() cases {
	all := cases{}
	for _, o := range oneOfEachKind() {
		addTop(all, o)
		addPush(all, o)
		addPop(all, o)
	}
	return all
}

func addTop(all cases, o impl.OpOp) {
	next := impl.PcBelow
	none := and(becomesSo(no), to(impl.PcUnpin))
	if o == pushOp {
		next = impl.PcAim
		none = to(impl.PcAim)
	}
	all.add(impl.PcTop, o, "there is one", asIs, currIs(8), to(next))
	all.add(impl.PcTop, o, "another one", topIs(1), currIs(1), to(next))
	all.add(impl.PcTop, o, "with a place of its own", ownIs(3), currIs(8), to(next))
	all.add(impl.PcTop, o, "there is none", topIs(0), currIs(0), none)
	all.add(impl.PcTop, o, "there is none, with a place of its own", and(topIs(0), ownIs(3)), currIs(0), none)
}

func addPush(all cases, o impl.OpOp) {
	all.add(impl.PcAim, o, "at the top", currIs(8), wordIs(3, 16), to(impl.PcPush))
	all.add(impl.PcAim, o, "at none", and(currIs(0), wordIs(3, 16)), wordIs(3, 0), to(impl.PcPush))
	all.add(impl.PcAim, o, "at another one, by now", and(currIs(1), wordIs(3, 16)), wordIs(3, 2), to(impl.PcPush))
	in := and(ownIs(0), becomesSo(yes(0)), to(impl.PcUnpin))
	all.add(impl.PcPush, o, "on the top", currIs(8), topIs(3), in)
	all.add(impl.PcPush, o, "on none", and(currIs(0), topIs(0)), topIs(3), in)
	again := to(impl.PcTop)
	all.add(impl.PcPush, o, "the top is another one", currIs(1), again)
	all.add(impl.PcPush, o, "the top is gone", and(currIs(8), topIs(0)), again)
	all.add(impl.PcPush, o, "there is a top by now", currIs(0), again)
}

func addPop(all cases, o impl.OpOp) {
	next := impl.PcPop
	if o == topOp {
		next = impl.PcPeek
	}
	all.add(impl.PcBelow, o, "the top", currIs(8), succIs(2), tells(yes(800)), to(next))
	all.add(impl.PcBelow, o, "the last", currIs(1), succIs(0), tells(yes(100)), to(next))
	all.add(impl.PcBelow, o, "one that was taken out", currIs(9), succIs(0), tells(yes(0)), to(next))
	out := and(becomesSoAsRes, currIs(0), to(impl.PcRetire))
	all.add(impl.PcPop, o, "the top", and(currIs(8), succIs(2)), topIs(1), oldIs(8), out)
	all.add(impl.PcPop, o, "the last", and(currIs(1), topIs(1), succIs(0)), topIs(0), oldIs(1), out)
	again := to(impl.PcTop)
	all.add(impl.PcPop, o, "the top is another one", and(currIs(1), succIs(0)), again)
	all.add(impl.PcPop, o, "the top is gone", and(currIs(8), succIs(2), topIs(0)), again)
	all.add(impl.PcPeek, o, "the top", currIs(8), becomesSoAsRes, to(impl.PcUnpin))
	all.add(impl.PcPeek, o, "the top is another one", currIs(1), again)
	all.add(impl.PcPeek, o, "the top is gone", and(currIs(8), topIs(0)), again)
}

// The rows from PcLast to PcSwing.
func queueCases() cases {
	all := cases{}
	for _, o := range oneOfEachKind() {
		own := ownIs(3)
		all.add(impl.PcLast, o, "the last", own, currIs(5), to(impl.PcBehind))
		all.add(impl.PcLast, o, "the one ahead of it", and(own, lastIs(6)), currIs(6), to(impl.PcBehind))
		all.add(impl.PcBehind, o, "nothing is behind it", and(own, currIs(5)), succIs(0), to(impl.PcJoin))
		all.add(impl.PcBehind, o, "one is behind it", and(own, currIs(6), succIs(0)), succIs(10), to(impl.PcHelp))
		all.add(impl.PcBehind, o, "it was the last, and is in another one's way", and(own, currIs(9), wordIs(9, 1)), succIs(1), to(impl.PcHelp))
		addHelp(all, o)
		addJoin(all, o)
	}
	return all
}

func addHelp(all cases, o impl.OpOp) {
	next := impl.PcLast
	if o == leaveOp {
		next = impl.PcFirst
	}
	late := and(lastIs(6), currIs(6))
	all.add(impl.PcHelp, o, "the last one is late", late, lastIs(5), to(next))
	all.add(impl.PcHelp, o, "the last one is late, with a place of its own", and(late, ownIs(3)), lastIs(5), to(next))
	all.add(impl.PcHelp, o, "it was helped on", currIs(6), to(next))
	all.add(impl.PcHelp, o, "by what was read", and(late, succIs(18)), lastIs(9), to(next))
	all.add(impl.PcSwing, o, "the last one is late", and(late, done), lastIs(5), to(impl.PcUnpin))
	all.add(impl.PcSwing, o, "it was helped on", and(currIs(6), done), to(impl.PcUnpin))
	all.add(impl.PcSwing, o, "by what was read", and(late, succIs(18)), lastIs(9), to(impl.PcUnpin))
}

func addJoin(all cases, o impl.OpOp) {
	all.add(impl.PcJoin, o, "nothing is behind it", and(currIs(5), succIs(0)), swapped(5, 6), succIs(6), ownIs(0), becomesSo(yes(0)), to(impl.PcSwing))
	again := to(impl.PcLast)
	all.add(impl.PcJoin, o, "one is behind it by now", and(currIs(6), succIs(0)), again)
	all.add(impl.PcJoin, o, "one is behind it, as was read", currIs(6), again)
	all.add(impl.PcJoin, o, "it was taken out, and marked", and(currIs(9), wordIs(9, 1), succIs(0)), again)
}

// The rows from PcFirst to PcShift, and PcSee.
func frontCases() cases {
	all := cases{}
	for _, o := range oneOfEachKind() {
		all.add(impl.PcFirst, o, "the first", asIs, currIs(6), to(impl.PcAfter))
		all.add(impl.PcFirst, o, "of none", firstIs(5), currIs(5), to(impl.PcAfter))
		behindFirst, behindValue := impl.PcTail, impl.PcShift
		if o == frontOp {
			behindFirst, behindValue = impl.PcValue, impl.PcSee
		}
		all.add(impl.PcAfter, o, "one is behind it", and(currIs(6), succIs(0)), succIs(10), predIs(5), to(behindFirst))
		all.add(impl.PcAfter, o, "nothing is behind it", currIs(5), succIs(0), predIs(0), becomesSo(no), to(impl.PcUnpin))
		all.add(impl.PcTail, o, "the last one is late", and(currIs(6), lastIs(6)), to(impl.PcHelp))
		all.add(impl.PcTail, o, "the last one is behind it", currIs(6), to(impl.PcValue))
		all.add(impl.PcTail, o, "the last one is that behind it", and(currIs(6), predIs(5)), to(impl.PcValue))
		all.add(impl.PcValue, o, "its value", and(currIs(6), predIs(5)), tells(yes(500)), to(behindValue))
		all.add(impl.PcValue, o, "that of another one", and(currIs(6), predIs(8)), tells(yes(800)), to(behindValue))
		addShift(all, o)
	}
	return all
}

func addShift(all cases, o impl.OpOp) {
	at := and(currIs(6), predIs(5))
	all.add(impl.PcShift, o, "the first", at, firstIs(5), becomesSoAsRes, oldIs(6), currIs(0), to(impl.PcRetire))
	all.add(impl.PcSee, o, "the first", at, becomesSoAsRes, to(impl.PcUnpin))
	gone := and(at, firstIs(5))
	all.add(impl.PcShift, o, "the first is another one", gone, to(impl.PcFirst))
	all.add(impl.PcSee, o, "the first is another one", gone, to(impl.PcFirst))
	all.add(impl.PcShift, o, "the first is not that", and(currIs(5), predIs(6)), to(impl.PcFirst))
	all.add(impl.PcSee, o, "the first is not that", and(currIs(5), predIs(6)), to(impl.PcFirst))
}

func TestStepsOfTheStack(t *testing.T) {
	checkSteps(t, stackCases())
}

func TestStepsOfWhoEnters(t *testing.T) {
	checkSteps(t, queueCases())
}

func TestStepsOfWhoLeaves(t *testing.T) {
	checkSteps(t, frontCases())
}
