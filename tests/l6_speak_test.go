package tests

import (
	"testing"

	"loop.example/tuggers/impl"
)

// speaks is a thing that happens, of which a promise is broken by what is done to the world behind it; and who should tell so.
type speaks struct {
	name  string
	watch watcher
	was   impl.WldWorld
	event impl.EvEvent
	how   func(*impl.WldWorld)
}

// checkSpeaks holds that a watcher is content with what happens, and not with what is broken.
func checkSpeaks(t *testing.T, all []speaks) {
	t.Helper()
	for _, s := range all {
		h := happening{was: s.was, event: s.event, is: impl.WldDo(s.was, s.event)}
		if _, broken := s.watch(h); broken != "" {
			t.Errorf("%s: ahead of it there is told: %s", s.name, broken)
		}
		s.how(&h.is)
		if _, broken := s.watch(h); broken == "" {
			t.Errorf("%s: nobody tells", s.name)
		}
	}
}

// actingAt asks the acting hand something, and lets it go on until it is somewhere.
func actingAt(t *testing.T, w impl.WldWorld, o impl.OpOp, pc int) impl.WldWorld {
	t.Helper()
	return goTill(t, ask(t, w, acting, o), acting, pc)
}

// three has the keys 10 and 20 at places 2 and 3, a value on the stack at place 4, and one in the queue at place 5; its log has four answers.
func three(t *testing.T) impl.WldWorld {
	t.Helper()
	return alone(t, impl.WldNew(), 0, op(impl.OpPut, 10, 1), op(impl.OpPut, 20, 2), pushOp, enterOp)
}

func TestWatchersOfPlacesSpeak(t *testing.T) {
	w := three(t)
	cut := actingAt(t, w, delOp, impl.PcCut)
	take := actingAt(t, w, pushOp, impl.PcTake)
	fill := actingAt(t, w, pushOp, impl.PcFill)
	mark := actingAt(t, w, delOp, impl.PcMark)
	full := impl.ResRes{Code: impl.ResFull}
	checkSpeaks(t, []speaks{
		{"P6, there was room", toldNoRoom, take, stepOf(acting), func(w *impl.WldWorld) { w.Hands[acting].Res, w.Hands[acting].Done = full, true }},
		{"P29, the mark is gone", marksStay, cut, stepOf(0), func(w *impl.WldWorld) { w.Arena.Nodes[3].Word = 0 }},
		{"P29, it leads elsewhere", marksStay, cut, stepOf(0), func(w *impl.WldWorld) { w.Arena.Nodes[3].Word = 13 }},
		{"P56, late by two", lastIsNear, w, stepOf(0), func(w *impl.WldWorld) { w.Arena.Last = 9 }},
		{"P56, late for nobody", lastIsNear, w, stepOf(0), func(w *impl.WldWorld) { w.Arena.Last = 1 }},
		{"P74, nobody took it", gensGrow, take, stepOf(0), func(w *impl.WldWorld) { w.Arena.Nodes[6] = impl.ArnNode{Used: true, Gen: 1} }},
		{"P74, not counted", gensGrow, take, stepOf(acting), func(w *impl.WldWorld) { w.Arena.Nodes[6].Gen, w.Hands[acting].Own.Gen = 0, 0 }},
		{"P74, counted twice", gensGrow, take, stepOf(acting), func(w *impl.WldWorld) { w.Arena.Nodes[6].Gen, w.Hands[acting].Own.Gen = 2, 2 }},
		{"P74, counted without", gensGrow, take, stepOf(0), func(w *impl.WldWorld) { w.Arena.Nodes[2].Gen++ }},
		{"P74, it falls", gensGrow, take, stepOf(0), func(w *impl.WldWorld) { w.Arena.Nodes[2].Gen-- }},
		{"P75, it is free", ownIsNobodyElses, fill, stepOf(acting), func(w *impl.WldWorld) { w.Arena.Nodes[6].Used = false }},
		{"P75, taken again", ownIsNobodyElses, fill, stepOf(acting), func(w *impl.WldWorld) { w.Arena.Nodes[6].Gen++ }},
		{"P75, in the map", ownIsNobodyElses, fill, stepOf(acting), func(w *impl.WldWorld) { w.Arena.Nodes[3].Word = 12 }},
		{"P75, on the stack", ownIsNobodyElses, fill, stepOf(acting), func(w *impl.WldWorld) { w.Arena.Top = 6 }},
		{"P75, in the queue", ownIsNobodyElses, fill, stepOf(acting), func(w *impl.WldWorld) { w.Arena.Nodes[5].Word = 12 }},
		{"P75, taken out", ownIsNobodyElses, fill, stepOf(acting), func(w *impl.WldWorld) { w.Pool.Limbo[0] = olds(6, 0) }},
		{"P75, another one's", ownIsNobodyElses, fill, stepOf(acting), func(w *impl.WldWorld) { w.Hands[2].Own = w.Hands[acting].Own }},
		{"P75, another one has seen it", ownIsNobodyElses, fill, stepOf(acting), func(w *impl.WldWorld) { w.Hands[2].Curr = w.Hands[acting].Own }},
		{"P86, not counted", turnsAreCounted, mark, stepOf(acting), func(w *impl.WldWorld) { w.Arena.Nodes[3].Ver-- }},
		{"P86, counted twice", turnsAreCounted, mark, stepOf(acting), func(w *impl.WldWorld) { w.Arena.Nodes[3].Ver++ }},
		{"P86, counted without", turnsAreCounted, mark, stepOf(acting), func(w *impl.WldWorld) { w.Arena.Nodes[5].Ver++ }},
		{"P86, the head's", turnsAreCounted, mark, stepOf(0), func(w *impl.WldWorld) { w.Arena.Nodes[0].Word = 6 }},
	})
}

func TestWatchersOfWhoEntersAndLooksSpeak(t *testing.T) {
	w := three(t)
	entered := actingAt(t, w, enterOp, impl.PcEnd)
	counts := actingAt(t, w, countOp, impl.PcCount)
	peeks := actingAt(t, w, topOp, impl.PcPeek)
	sees := actingAt(t, w, frontOp, impl.PcSee)
	checkSpeaks(t, []speaks{
		{"P56, its place is behind the last one", enteredBehind, entered, stepOf(acting), func(w *impl.WldWorld) { w.Arena.Last = 5 }},
		{"P87, who counts turns a place", lookersTurnNothing, counts, stepOf(acting), func(w *impl.WldWorld) { w.Arena.Nodes[2].Val++ }},
		{"P87, who looks at the top turns it", lookersTurnNothing, peeks, stepOf(acting), func(w *impl.WldWorld) { w.Arena.Top = 0 }},
		{"P87, who looks at the front turns a word", lookersTurnNothing, sees, stepOf(acting), func(w *impl.WldWorld) { w.Arena.Nodes[1].Ver++ }},
	})
}

func TestWatchersOfEpochsSpeak(t *testing.T) {
	w := alone(t, three(t), 0, popOp, clearOp, clearOp)
	w = alone(t, w, acting, leaveOp)
	old := w.Pool.Limbo[acting][0].Node
	late := actingAt(t, w, delOp, impl.PcRetire)
	pinned := actingAt(t, w, getOp, impl.PcKey)
	unpins := actingAt(t, w, getOp, impl.PcUnpin)
	checkSpeaks(t, []speaks{
		{"P28", staysOk, w, stepOf(0), func(w *impl.WldWorld) { w.Clock = -1 }},
		{"P30, it falls", epochWaits, w, stepOf(0), func(w *impl.WldWorld) { w.Pool.Epoch-- }},
		{"P30, by two", epochWaits, w, stepOf(0), func(w *impl.WldWorld) { w.Pool.Epoch += 2 }},
		{"P30, it does not wait", epochWaits, pinned, stepOf(0), func(w *impl.WldWorld) { w.Pool.Pins[acting] -= 2; w.Pool.Epoch++ }},
		{"P30, not pinned", epochWaits, pinned, stepOf(0), func(w *impl.WldWorld) { w.Pool.Pins[acting] = 0 }},
		{"P55, back in its epoch", takenOutStays, w, stepOf(0), func(w *impl.WldWorld) { w.Pool.Limbo[acting] = nil }},
		{"P55, back one epoch later", takenOutStays, w, stepOf(0), func(w *impl.WldWorld) { w.Pool.Limbo[acting], w.Pool.Epoch = nil, w.Pool.Epoch+1 }},
		{"P55, in use no more", takenOutStays, w, stepOf(0), func(w *impl.WldWorld) { w.Arena.Nodes[old].Used = false }},
		{"P55, taken again", takenOutStays, w, stepOf(0), func(w *impl.WldWorld) { w.Arena.Nodes[old].Gen++ }},
		{"P55, in the map", takenOutStays, w, stepOf(0), func(w *impl.WldWorld) { w.Arena.Nodes[0].Word = 2 * old }},
		{"P55, on the stack", takenOutStays, w, stepOf(0), func(w *impl.WldWorld) { w.Arena.Top = old }},
		{"P55, in the queue", takenOutStays, w, stepOf(0), func(w *impl.WldWorld) { w.Arena.First = old }},
		{"P55, noted in another epoch", notedNow, late, stepOf(acting), func(w *impl.WldWorld) { w.Pool.Limbo[acting][1].Epoch = 0 }},
		{"P73, idle", idleIsNotPinned, w, stepOf(0), func(w *impl.WldWorld) { w.Pool.Pins[2] = 1 }},
		{"P73, at its end", idleIsNotPinned, unpins, stepOf(acting), func(w *impl.WldWorld) { w.Pool.Pins[acting] = 1 }},
		{"P73, ahead of the epoch", idleIsNotPinned, pinned, stepOf(0), func(w *impl.WldWorld) { w.Pool.Pins[acting] += 1 }},
	})
}

func TestWatchersOfAnswersSpeak(t *testing.T) {
	w := three(t)
	end := actingAt(t, w, getOp, impl.PcEnd)
	unpins := actingAt(t, w, getOp, impl.PcUnpin)
	last := func(w *impl.WldWorld) *impl.LogRec { return &w.Log[len(w.Log)-1] }
	checkSpeaks(t, []speaks{
		{"P31, at once", pointsInOrder, end, stepOf(acting), func(w *impl.WldWorld) { last(w).Point = w.Log[0].Point }},
		{"P31, ahead of what was answered", pointsInOrder, end, stepOf(acting), func(w *impl.WldWorld) { last(w).Point = w.Log[2].Point - 1 }},
		{"P53, its answer turns", doneStays, unpins, stepOf(acting), func(w *impl.WldWorld) { w.Hands[acting].Res.Val++ }},
		{"P53, when it became so turns", doneStays, unpins, stepOf(acting), func(w *impl.WldWorld) { w.Hands[acting].Point++ }},
		{"P53, it is not so any more", doneStays, unpins, stepOf(acting), func(w *impl.WldWorld) { w.Hands[acting].Done = false }},
		{"P53, answered otherwise", doneStays, end, stepOf(acting), func(w *impl.WldWorld) { last(w).Res = no }},
		{"P53, answered as of another time", doneStays, end, stepOf(acting), func(w *impl.WldWorld) { last(w).Point++ }},
		{"P53, answered by another one", doneStays, end, stepOf(acting), func(w *impl.WldWorld) { last(w).Hand = 2 }},
		{"P53, not answered", doneStays, end, stepOf(acting), func(w *impl.WldWorld) { w.Log = w.Log[:len(w.Log)-1] }},
		{"P54, it shrinks", logGrows, w, stepOf(0), func(w *impl.WldWorld) { w.Log = w.Log[1:] }},
		{"P54, what was answered turns", logGrows, w, stepOf(0), func(w *impl.WldWorld) { w.Log[1].Res.Val++ }},
		{"P54, it grows by two", logGrows, end, stepOf(acting), func(w *impl.WldWorld) { w.Log = append(w.Log, *last(w)) }},
		{"P54, it grows while nobody ends", logGrows, unpins, stepOf(acting), func(w *impl.WldWorld) { w.Log = append(w.Log, *last(w)) }},
		{"P54, it does not grow", logGrows, end, stepOf(acting), func(w *impl.WldWorld) { w.Log = w.Log[:len(w.Log)-1] }},
		{"P54, it grows at its beginning", logGrows, end, stepOf(acting), func(w *impl.WldWorld) { w.Log = append([]impl.LogRec{*last(w)}, w.Log[:4]...) }},
	})
}

// watchCount lets who counts do so many steps, with something done to the world behind the last one, and is what there is told of these.
func watchCount(t *testing.T, w impl.WldWorld, size int, how func(*impl.WldWorld)) string {
	t.Helper()
	look := new(looks).wholeLook
	w = ask(t, w, acting, op(impl.OpCount, 0))
	for n := range size {
		h := happening{was: w, event: stepOf(acting), is: impl.WldStep(w, acting)}
		if n == size-1 {
			how(&h.is)
		}
		if _, broken := look(h); broken != "" {
			return broken
		}
		w = h.is
	}
	return ""
}

// Of two keys each look is of three steps, behind three others.
func TestWatchersOfWhoCountsSpeak(t *testing.T) {
	told := func(w *impl.WldWorld) { w.Hands[acting].Done = true }
	for size := 1; size <= 9; size++ {
		broken := watchCount(t, three(t), size, told)
		if (broken == "") != (size == 9) {
			t.Errorf("told behind %d steps: %q", size, broken)
		}
	}
	turned := func(w *impl.WldWorld) { w.Arena.Nodes[3].Ver++ }
	if watchCount(t, three(t), 8, turned) != "" {
		t.Errorf("told ahead of its end")
	}
	if look := unlikeLooks(t); look == "" {
		t.Errorf("nobody tells that two looks differ")
	}
}

// unlikeLooks lets a word be turned between two looks, and who counts be told all the same.
func unlikeLooks(t *testing.T) string {
	t.Helper()
	look := new(looks).seenTwice
	w := ask(t, three(t), acting, op(impl.OpCount, 0))
	for n := range 9 {
		h := happening{was: w, event: stepOf(acting), is: impl.WldStep(w, acting)}
		if n == 6 {
			h.is.Arena.Nodes[3].Ver++
		}
		if n == 8 {
			h.is.Hands[acting].Done = true
		}
		if _, broken := look(h); broken != "" {
			return broken
		}
		w = h.is
	}
	return ""
}
