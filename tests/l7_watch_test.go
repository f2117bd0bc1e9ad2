package tests

import (
	"slices"

	"loop.example/tuggers/impl"
)

// plainThere is what there is at places that are ok, by no function of the program.
func plainThere(a impl.ArnArena) impl.LinState {
	var s impl.LinState
	for at := a.Nodes[0].Word / 2; at != 0; at = a.Nodes[at].Word / 2 {
		if a.Nodes[at].Word%2 == 0 {
			s.Map.Entries = append(s.Map.Entries, impl.MapEntry{Key: a.Nodes[at].Key, Val: a.Nodes[at].Val})
		}
	}
	for at := a.Top; at != 0; at = a.Nodes[at].Word / 2 {
		s.Stack = append(s.Stack, a.Nodes[at].Val)
	}
	for at := a.Nodes[a.First].Word / 2; at != 0; at = a.Nodes[at].Word / 2 {
		s.Queue = append(s.Queue, a.Nodes[at].Val)
	}
	return s
}

// plainLog is what was answered, and what is so for good.
func plainLog(w impl.WldWorld) []impl.LogRec {
	var done []int
	for k, h := range w.Hands {
		if h.Pc != impl.PcIdle && h.Done {
			done = append(done, k)
		}
	}
	return doneAt(w, done...)
}

// P1
func isAlike(h happening) (bool, string) {
	if len(h.is.Log) == 400 {
		return holds(false)
	}
	if !impl.LinOk(h.is) {
		return breaks("it is not alike: there is", plainThere(h.is.Arena), "and was answered", plainLog(h.is))
	}
	return holds(len(h.is.Log) > 0)
}

// alikeByHand is of P1 too, by no function of the program.
func alikeByHand(h happening) (bool, string) {
	if len(h.is.Log) == 400 {
		return holds(false)
	}
	log := plainLog(h.is)
	for _, r := range log {
		if r.Point < r.Begin || r.End < r.Point {
			return breaks("times are not in order:", r)
		}
	}
	s, same := plainRun(log)
	if !same || !sameState(s, plainThere(h.is.Arena)) {
		return breaks("there is", plainThere(h.is.Arena), "and one state is", s, same, "behind", plainSort(log))
	}
	return holds(len(log) > 0)
}

// mayTurn is of which of map, stack and queue a hand turns something at most.
func mayTurn(o impl.OpOp) string {
	if o.Kind == impl.OpGet || slices.Contains(lookKinds, o.Kind) {
		return "none"
	}
	return thingOf(o)
}

// P51
func turnsJustItsThing(h happening) (bool, string) {
	was, is := plainThere(h.was.Arena), plainThere(h.is.Arena)
	k, stepped := h.steps()
	may := "none"
	if stepped {
		may = mayTurn(h.was.Hands[k].Op)
	}
	turned := map[string]bool{
		"map":   !sameMap(was.Map, is.Map),
		"stack": !slices.Equal(was.Stack, is.Stack),
		"queue": !slices.Equal(was.Queue, is.Queue),
	}
	for thing, is := range turned {
		if is && thing != may {
			return breaks("the", thing, "turned behind", h.event, "of hand", h.was.Hands[k])
		}
	}
	return holds(turned[may])
}

// P52
func turnsAsItBecomesSo(h happening) (bool, string) {
	was, is := plainThere(h.was.Arena), plainThere(h.is.Arena)
	if sameState(was, is) {
		return holds(false)
	}
	k, stepped := h.steps()
	if !stepped || !becameSo(h, k) {
		return breaks("there is", is, "and was", was, "though no answer became so")
	}
	hand := h.is.Hands[k]
	if hand.Point != h.is.Clock {
		return breaks("there is", is, "as of", h.is.Clock, "and the answer is so as of", hand.Point)
	}
	want, res := plainApply(was, hand.Op)
	if !sameState(is, want) || hand.Res != res {
		return breaks("there is", is, "want", want, "and is told", hand.Res, "want", res, "behind", hand.Op, "of", was)
	}
	return holds(true)
}

// appliesAsItBecomesSo is of P52 too, by LinApply.
func appliesAsItBecomesSo(h happening) (bool, string) {
	was, is := impl.LinOf(h.was.Arena), impl.LinOf(h.is.Arena)
	k, stepped := h.steps()
	if !stepped || sameState(was, is) {
		return holds(false)
	}
	want, res := impl.LinApply(was, h.is.Hands[k].Op)
	if !sameState(is, want) || h.is.Hands[k].Res != res {
		return breaks("there is", is, "want", want, "and is told", h.is.Hands[k].Res, "want", res)
	}
	return holds(true)
}

// P76
func toldNoTurnsNothing(h happening) (bool, string) {
	met := false
	for k := range impl.PolHands {
		if !becameSo(h, k) || h.is.Hands[k].Res.Code == impl.ResYes {
			continue
		}
		met = true
		if was, is := plainThere(h.was.Arena), plainThere(h.is.Arena); !sameState(was, is) {
			return breaks("hand", k, "is told", h.is.Hands[k].Res, "and there is", is, "and was", was)
		}
	}
	return holds(met)
}
