package tests

import (
	"testing"

	"loop.example/tuggers/impl"
)

// foundWay is what was asked, and what who asked it goes on with once it knows whether the key is there, with no place of its own, and with one.
type foundWay struct {
	op    impl.OpOp
	alone turn
	owner turn
}

// foundNot are the ways if the key is not there.
func foundNot() []foundWay {
	saysNo := and(tells(no), done)
	all := []foundWay{
		{putOp, to(impl.PcTake), to(impl.PcFill)},
		{clearOp, to(impl.PcUnpin), to(impl.PcUnpin)},
	}
	for _, o := range kindsBut(putOp, clearOp) {
		all = append(all, foundWay{o, and(saysNo, to(impl.PcUnpin)), and(saysNo, to(impl.PcGive))})
	}
	return all
}

// foundThere are the ways if the key is there, with value 200.
func foundThere() []foundWay {
	saysNo, saysIt := and(tells(no), done), and(tells(yes(200)), done)
	toMark := and(tells(yes(200)), to(impl.PcMark))
	return []foundWay{
		{getOp, and(saysIt, to(impl.PcUnpin)), and(saysIt, to(impl.PcGive))},
		{delOp, toMark, toMark},
		{putOp, and(saysNo, to(impl.PcUnpin)), and(saysNo, to(impl.PcGive))},
		{countOp, and(saysNo, to(impl.PcUnpin)), and(saysNo, to(impl.PcGive))},
	}
}

// The rows PcHead, PcNext and PcKey, as far as they go on from place to place.
func goCases() cases {
	all := cases{}
	for _, o := range oneOfEachKind() {
		start := and(predIs(0), to(impl.PcNext))
		all.add(impl.PcHead, o, "to the first", asIs, start, currIs(4), pointIs(now))
		all.add(impl.PcHead, o, "to the first, done", done, start, currIs(4))
		all.add(impl.PcHead, o, "to none", noKeys, start, currIs(0), pointIs(now))
		all.add(impl.PcHead, o, "with a place of its own", ownIs(3), start, currIs(4), pointIs(now))
		read := func(_ *impl.WldWorld, h *impl.HndHand) { h.Read = now }
		all.add(impl.PcNext, o, "not marked", currIs(4), succIs(4), read, to(impl.PcKey))
		all.add(impl.PcNext, o, "not marked, the last, done", done, succIs(0), read, to(impl.PcKey))
		all.add(impl.PcNext, o, "marked", and(currIs(4), wordIs(4, 5)), succIs(5), read, to(impl.PcUnlink))
		all.add(impl.PcNext, o, "marked, the last, done", and(done, wordIs(2, 1)), succIs(1), read, to(impl.PcUnlink))
	}
	addLess(all)
	return all
}

// Where a key is less the hand goes on by the word that it read, as of when it read it, whatever the word is now.
func addLess(all cases) {
	goesOn := and(predIs(2), currIs(5), to(impl.PcNext))
	for _, kind := range []int{impl.OpGet, impl.OpPut, impl.OpDel, impl.OpNext, impl.OpCount} {
		o := op(kind, 21)
		all.add(impl.PcKey, o, "less", asIs, goesOn, pointIs(21))
		all.add(impl.PcKey, o, "less, done", done, goesOn)
		all.add(impl.PcKey, o, "less, with a place of its own", ownIs(3), goesOn, pointIs(21))
		all.add(impl.PcKey, o, "less, the last", succIs(0), predIs(2), currIs(0), to(impl.PcNext), pointIs(21))
		all.add(impl.PcKey, o, "less, the first", and(predIs(0), currIs(4), succIs(4)), predIs(4), currIs(2), to(impl.PcNext), pointIs(21))
	}
	all.add(impl.PcKey, clearOp, "all keys are less", asIs, goesOn, pointIs(21))
	all.add(impl.PcKey, clearOp, "the greatest key is less", keyIs(2, impl.KeyMax), goesOn, pointIs(21))
	all.add(impl.PcKey, clearOp, "the greatest key is less, done", and(done, keyIs(2, impl.KeyMax)), goesOn)
}

// The rows PcNext and PcKey, where they have found.
func foundCases() cases {
	all := cases{}
	for _, way := range foundNot() {
		all.add(impl.PcNext, way.op, "none", currIs(0), way.alone)
		all.add(impl.PcNext, way.op, "none, with a place of its own", and(currIs(0), ownIs(3)), way.owner)
		all.add(impl.PcNext, way.op, "none, done", and(currIs(0), done), to(impl.PcUnpin))
		all.add(impl.PcNext, way.op, "none, done, with a place of its own", and(currIs(0), ownIs(3), done), to(impl.PcUnpin))
		if way.op != nextOp && way.op != clearOp {
			addGreater(all, way)
		}
	}
	for _, way := range foundThere() {
		all.add(impl.PcKey, way.op, "there", asIs, pointIs(21), way.alone)
		all.add(impl.PcKey, way.op, "there, with a place of its own", ownIs(3), pointIs(21), way.owner)
		all.add(impl.PcKey, way.op, "there, done", done, to(impl.PcUnpin))
		all.add(impl.PcKey, way.op, "there, done, with a place of its own", and(done, ownIs(3)), to(impl.PcUnpin))
	}
	addNext(all)
	addNoKey(all)
	return all
}

// Where a key is greater nothing was read that says since when: it is as of the place ahead.
func addGreater(all cases, way foundWay) {
	greater := keyIs(2, 25)
	all.add(impl.PcKey, way.op, "greater", greater, way.alone)
	all.add(impl.PcKey, way.op, "greater, with a place of its own", and(greater, ownIs(3)), way.owner)
	all.add(impl.PcKey, way.op, "greater, done", and(greater, done), to(impl.PcUnpin))
}

func addNext(all cases) {
	tellsKey := func(key int) turn { return and(tells(yes(key)), done, to(impl.PcUnpin)) }
	all.add(impl.PcKey, nextOp, "there", asIs, pointIs(21), tellsKey(20))
	all.add(impl.PcKey, nextOp, "there, done", done, tellsKey(20))
	all.add(impl.PcKey, nextOp, "greater", keyIs(2, 25), tellsKey(25))
	all.add(impl.PcKey, nextOp, "the greatest", keyIs(2, 99), tellsKey(99))
	all.add(impl.PcKey, nextOp, "greater, done", and(keyIs(2, 25), done), tellsKey(25))
	all.add(impl.PcKey, op(impl.OpNext, 0), "from 0 on", and(predIs(0), currIs(4), succIs(4)), tellsKey(10))
	all.add(impl.PcKey, op(impl.OpNext, 99), "the last one", keyIs(2, 99), pointIs(21), tellsKey(99))
}

// What is asked of no key looks for key 0, should it ever come here.
func addNoKey(all cases) {
	zero := and(predIs(0), currIs(4), succIs(4), keyIs(4, 0))
	for _, o := range []impl.OpOp{pushOp, popOp, enterOp, leaveOp, topOp, frontOp} {
		all.add(impl.PcKey, o, "key 0", zero, pointIs(21), tells(no), done, to(impl.PcUnpin))
	}
	all.add(impl.PcKey, op(impl.OpGet, 0), "key 0", zero, pointIs(21), tells(yes(400)), done, to(impl.PcUnpin))
}

// The rows PcUnlink, PcRetire, and from PcTake to PcGive.
func turnCases() cases {
	all := cases{}
	for _, o := range oneOfEachKind() {
		addUnlink(all, o)
		addRetire(all, o)
		addTake(all, o)
		addLink(all, o)
		addMark(all, o)
		addCut(all, o)
		all.add(impl.PcGive, o, "given back", asIs, free(3), ownIs(0), to(impl.PcUnpin))
		all.add(impl.PcGive, o, "given back, done, with things in it", and(done, wordIs(3, 6), keyIs(3, 9)), free(3), ownIs(0), to(impl.PcUnpin))
	}
	return all
}

// leadsElsewhere lets a place of the map lead to one that was put in since.
func leadsElsewhere(at int) turn {
	return and(keyIs(9, 30), wordIs(at, 18))
}

// In a busy world place 4 leads to place 2, that is, its word is 4.
func addUnlink(all cases, o impl.OpOp) {
	lastMarked := and(wordIs(2, 1), succIs(1))
	firstMarked := and(predIs(0), currIs(4), wordIs(4, 5), succIs(5))
	out := to(impl.PcRetire)
	all.add(impl.PcUnlink, o, "the last", lastMarked, swapped(4, 0), oldIs(2), currIs(0), pointIs(now), out)
	all.add(impl.PcUnlink, o, "the last, done", and(lastMarked, done), swapped(4, 0), oldIs(2), currIs(0), out)
	all.add(impl.PcUnlink, o, "the first", firstMarked, swapped(0, 4), oldIs(4), currIs(2), pointIs(now), out)
	all.add(impl.PcUnlink, o, "the first, with a place of its own", and(firstMarked, ownIs(3)), swapped(0, 4), oldIs(4), currIs(2), pointIs(now), out)
	all.add(impl.PcUnlink, o, "as it was read, whatever is there", asIs, swapped(4, 10), oldIs(2), currIs(5), pointIs(now), out)
	again := to(impl.PcHead)
	all.add(impl.PcUnlink, o, "the place ahead leads elsewhere", and(lastMarked, leadsElsewhere(4)), again)
	all.add(impl.PcUnlink, o, "the place ahead leads to none", and(lastMarked, wordIs(4, 0)), again)
	all.add(impl.PcUnlink, o, "the place ahead is marked", and(lastMarked, wordIs(4, 5)), again)
	all.add(impl.PcUnlink, o, "the head leads elsewhere, done", and(lastMarked, predIs(0), done), again)
}

func addRetire(all cases, o impl.OpOp) {
	noted := and(takenIs(acting, 7, 2, 9, epochThen), oldIs(0))
	all.add(impl.PcRetire, o, "goes on", asIs, noted, to(impl.PcNext))
	all.add(impl.PcRetire, o, "goes on, behind the last", currIs(0), noted, to(impl.PcNext))
	all.add(impl.PcRetire, o, "goes on, done", done, noted, to(impl.PcNext))
	all.add(impl.PcRetire, o, "is at its end", and(done, currIs(0)), noted, to(impl.PcUnpin))
	all.add(impl.PcRetire, o, "with a place of its own", ownIs(3), noted, to(impl.PcNext))
	all.add(impl.PcRetire, o, "the first that it took out", takenIs(acting), takenIs(acting, 9, epochThen), oldIs(0), to(impl.PcNext))
	all.add(impl.PcRetire, o, "pinned one epoch ahead", and(pinIs(acting, epochThen), seenIs(4)), noted, to(impl.PcNext))
	all.add(impl.PcRetire, o, "beside others", and(takenIs(0, 3, 1), takenIs(acting)), takenIs(acting, 9, epochThen), oldIs(0), to(impl.PcNext))
}

// taken is a place in use that nobody filled yet.
func taken(at int) turn {
	return func(w *impl.WldWorld, h *impl.HndHand) {
		h.Own = impl.HndRef{At: at, Gen: ref(at).Gen + 1}
		w.Arena.Nodes[at] = impl.ArnNode{Used: true, Gen: h.Own.Gen}
	}
}

func addTake(all cases, o impl.OpOp) {
	all.add(impl.PcTake, o, "one is free", free(9), taken(9), to(impl.PcFill))
	all.add(impl.PcTake, o, "two are free", and(free(9), free(3)), taken(3), to(impl.PcFill))
	all.add(impl.PcTake, o, "no room", asIs, becomesSo(full), to(impl.PcUnpin))
	filled := func(at, word int) turn {
		return func(w *impl.WldWorld, _ *impl.HndHand) {
			w.Arena.Nodes[at] = impl.ArnNode{Key: o.Key, Val: o.Val, Word: word, Ver: at + 20, Used: true, Gen: ref(at).Gen}
		}
	}
	next := impl.PcLink
	switch o {
	case pushOp:
		next = impl.PcTop
	case enterOp:
		next = impl.PcLast
	}
	all.add(impl.PcFill, o, "ahead of a place", asIs, filled(3, 4), to(next))
	all.add(impl.PcFill, o, "ahead of none", currIs(0), filled(3, 0), to(next))
	all.add(impl.PcFill, o, "what it had is gone", and(wordIs(3, 19), keyIs(3, 98)), filled(3, 4), to(next))
	all.add(impl.PcFill, o, "another place", ownIs(9), filled(9, 4), to(next))
}

func addLink(all cases, o impl.OpOp) {
	in := and(ownIs(0), becomesSo(yes(0)), to(impl.PcUnpin))
	all.add(impl.PcLink, o, "between two", asIs, swapped(4, 6), in)
	all.add(impl.PcLink, o, "behind the last", and(predIs(2), currIs(0)), swapped(2, 6), in)
	all.add(impl.PcLink, o, "ahead of the first", and(predIs(0), currIs(4)), swapped(0, 6), in)
	all.add(impl.PcLink, o, "the only one", and(noKeys, predIs(0), currIs(0)), swapped(0, 6), in)
	again := to(impl.PcHead)
	all.add(impl.PcLink, o, "the place ahead leads elsewhere", leadsElsewhere(4), again)
	all.add(impl.PcLink, o, "the place ahead leads to none", wordIs(4, 0), again)
	all.add(impl.PcLink, o, "the place ahead is marked", wordIs(4, 5), again)
	all.add(impl.PcLink, o, "the last is marked", and(wordIs(2, 1), predIs(2), currIs(0)), again)
	all.add(impl.PcLink, o, "the first is another one", and(predIs(0), currIs(2)), again)
	all.add(impl.PcLink, o, "there is a first one by now", and(predIs(0), currIs(0)), again)
}

func addMark(all cases, o impl.OpOp) {
	all.add(impl.PcMark, o, "the last", succIs(0), swapped(2, 1), becomesSoAsRes, to(impl.PcCut))
	all.add(impl.PcMark, o, "the first", and(predIs(0), currIs(4), succIs(4)), swapped(4, 5), becomesSoAsRes, to(impl.PcCut))
	again := to(impl.PcHead)
	all.add(impl.PcMark, o, "its word is another one", succIs(6), again)
	all.add(impl.PcMark, o, "it leads to one by now", and(leadsElsewhere(2), succIs(0)), again)
	all.add(impl.PcMark, o, "another one has marked the last", and(wordIs(2, 1), succIs(0)), again)
	all.add(impl.PcMark, o, "another one has marked the first", and(predIs(0), currIs(4), wordIs(4, 5), succIs(4)), again)
}

func addCut(all cases, o impl.OpOp) {
	last := and(wordIs(2, 1), succIs(0), done)
	first := and(predIs(0), currIs(4), wordIs(4, 5), succIs(4), done)
	out := and(currIs(0), to(impl.PcRetire))
	all.add(impl.PcCut, o, "the last", last, swapped(4, 0), oldIs(2), out)
	all.add(impl.PcCut, o, "the first", first, swapped(0, 4), oldIs(4), out)
	all.add(impl.PcCut, o, "as it was read, whatever is there", asIs, swapped(4, 10), oldIs(2), out)
	again := to(impl.PcHead)
	all.add(impl.PcCut, o, "the place ahead leads elsewhere", and(last, leadsElsewhere(4)), again)
	all.add(impl.PcCut, o, "another one has taken it out", and(last, wordIs(4, 0)), again)
	all.add(impl.PcCut, o, "the place ahead is marked", and(last, wordIs(4, 5)), again)
	all.add(impl.PcCut, o, "the head leads elsewhere", and(first, wordIs(0, 4)), again)
}

func TestStepsFromPlaceToPlace(t *testing.T) {
	checkSteps(t, goCases())
}

func TestStepsThatHaveFound(t *testing.T) {
	checkSteps(t, foundCases())
}

func TestStepsThatTurnTheMap(t *testing.T) {
	checkSteps(t, turnCases())
}
