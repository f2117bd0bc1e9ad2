package tests

import (
	"testing"

	"loop.example/tuggers/impl"
)

// turnedThere turn what is there, each just one of map, stack and queue; of the world of three.
func turnedThere() map[string]func(*impl.WldWorld) {
	return map[string]func(*impl.WldWorld){
		"map":   func(w *impl.WldWorld) { w.Arena.Nodes[2].Val++ },
		"stack": func(w *impl.WldWorld) { w.Arena.Nodes[4].Val++ },
		"queue": func(w *impl.WldWorld) { w.Arena.Nodes[5].Val++ },
	}
}

// aheadOfSo is where a hand is ahead of the step at which it becomes so what it answers.
func aheadOfSo() map[impl.OpOp]int {
	return map[impl.OpOp]int{
		getOp: impl.PcKey, op(impl.OpPut, 30, 3): impl.PcLink, delOp: impl.PcMark, clearOp: impl.PcFree, pushOp: impl.PcPush, popOp: impl.PcPop,
		enterOp: impl.PcJoin, leaveOp: impl.PcShift, op(impl.OpNext, 20): impl.PcKey, op(impl.OpCount, 20): impl.PcCount, topOp: impl.PcPeek, frontOp: impl.PcSee,
	}
}

// Whatever a hand is asked, what it may not turn speaks; so it does where nobody does a step.
func TestWatchersOfWhatTurnsSpeak(t *testing.T) {
	w := three(t)
	var all []speaks
	for o, pc := range aheadOfSo() {
		is := actingAt(t, w, o, pc)
		for thing, how := range turnedThere() {
			if thing != mayTurn(o) {
				all = append(all, speaks{"P51, " + thing, turnsJustItsThing, is, stepOf(acting), how})
				all = append(all, speaks{"P1, " + thing, isAlike, is, stepOf(acting), how})
				all = append(all, speaks{"P1, by hand, " + thing, alikeByHand, is, stepOf(acting), how})
			}
			all = append(all, speaks{"P51, not asked, " + thing, turnsJustItsThing, w, stepOf(0), how})
			all = append(all, speaks{"P52, nothing is so, " + thing, turnsAsItBecomesSo, w, stepOf(0), how})
		}
	}
	checkSpeaks(t, all)
}

// What is there turns as it should, but the answer is not so for good, or not at the clock, or is another one; or it turns otherwise.
func TestWatchersOfWhatBecomesSoSpeak(t *testing.T) {
	w := three(t)
	hand := func(how func(*impl.HndHand)) func(*impl.WldWorld) {
		return func(w *impl.WldWorld) { how(&w.Hands[acting]) }
	}
	var all []speaks
	for o, pc := range aheadOfSo() {
		thing := mayTurn(o)
		if thing == "none" {
			continue
		}
		is := actingAt(t, w, o, pc)
		all = append(all,
			speaks{"P52, not so", turnsAsItBecomesSo, is, stepOf(acting), hand(func(h *impl.HndHand) { h.Done = false })},
			speaks{"P52, so as of another time", turnsAsItBecomesSo, is, stepOf(acting), hand(func(h *impl.HndHand) { h.Point-- })},
			speaks{"P52, another answer", turnsAsItBecomesSo, is, stepOf(acting), hand(func(h *impl.HndHand) { h.Res.Val++ })},
			speaks{"P52, another answer, by LinApply", appliesAsItBecomesSo, is, stepOf(acting), hand(func(h *impl.HndHand) { h.Res.Val++ })},
			speaks{"P76, it is no", toldNoTurnsNothing, is, stepOf(acting), hand(func(h *impl.HndHand) { h.Res = no })},
			speaks{"P76, there is no room", toldNoTurnsNothing, is, stepOf(acting), hand(func(h *impl.HndHand) { h.Res = full })},
			speaks{"P1, not so", isAlike, is, stepOf(acting), hand(func(h *impl.HndHand) { h.Done = false })},
			speaks{"P1, by hand, another answer", alikeByHand, is, stepOf(acting), hand(func(h *impl.HndHand) { h.Res = yes(998) })},
			speaks{"P1, by hand, ahead of it", alikeByHand, is, stepOf(acting), hand(func(h *impl.HndHand) { h.Point = h.Begin - 1 })},
		)
		// Who pops, or leaves, takes the one value that there is; all others leave what is turned there.
		if o.Kind == impl.OpPut || o.Kind == impl.OpPush || o.Kind == impl.OpEnter || o.Kind == impl.OpDel {
			all = append(all, speaks{"P52, otherwise", turnsAsItBecomesSo, is, stepOf(acting), turnedThere()[thing]})
			all = append(all, speaks{"P52, otherwise, by LinApply", appliesAsItBecomesSo, is, stepOf(acting), turnedThere()[thing]})
		}
	}
	checkSpeaks(t, all)
}

// At the step at which a hand is told no what is there turns.
func TestWatchersOfNoSpeak(t *testing.T) {
	w := three(t)
	var all []speaks
	for o, pc := range map[impl.OpOp]int{
		op(impl.OpGet, 15): impl.PcKey, op(impl.OpDel, 15): impl.PcKey, op(impl.OpPut, 20, 4): impl.PcKey, op(impl.OpNext, 25): impl.PcNext,
	} {
		is := actingAt(t, w, o, pc)
		for !impl.WldStep(is, acting).Hands[acting].Done {
			is = impl.WldStep(is, acting)
		}
		for thing, how := range turnedThere() {
			all = append(all, speaks{"P76, " + thing, toldNoTurnsNothing, is, stepOf(acting), how})
		}
	}
	checkSpeaks(t, all)
}

// A walk from key to key speaks, if it is told a key twice, or one that never was, or missed one that stays.
func TestWalksSpeak(t *testing.T) {
	w := three(t)
	without := alone(t, w, 0, op(impl.OpDel, 10))
	more := alone(t, w, 0, op(impl.OpPut, 15, 1))
	for _, c := range []struct {
		told []int
		seen []impl.WldWorld
		want bool
	}{
		{[]int{10, 20}, nil, true},
		{[]int{10, 20}, []impl.WldWorld{without, w}, true},
		{[]int{20}, []impl.WldWorld{without, w}, true},
		{[]int{10, 15, 20}, []impl.WldWorld{more, w}, true},
		{[]int{10, 20}, []impl.WldWorld{more, w}, true},
		{nil, nil, false},
		{[]int{20}, nil, false},
		{[]int{10}, nil, false},
		{[]int{10}, []impl.WldWorld{without}, false},
		{[]int{20, 10}, nil, false},
		{[]int{10, 10, 20}, nil, false},
		{[]int{10, 15, 20}, nil, false},
		{[]int{10, 20, 30}, []impl.WldWorld{more}, false},
	} {
		walk := newWalk(w)
		for _, is := range c.seen {
			walk.see(is)
		}
		walk.told = c.told
		if broken := walk.broken(); (broken == "") != c.want {
			t.Errorf("told %v behind %d worlds: %q", c.told, len(c.seen), broken)
		}
	}
}
