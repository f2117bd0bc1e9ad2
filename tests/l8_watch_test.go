package tests

import (
	"slices"

	"loop.example/tuggers/impl"
)

// P2
func touchesWhatIsThere(h happening) (bool, string) {
	met := false
	for k, hand := range h.is.Hands {
		if !impl.AudTouch(h.is, k) {
			return breaks("hand", k, "is about to touch what is not there as it saw it:", hand, "of", h.is.Arena)
		}
		r, touches := impl.HndTouch(hand)
		met = met || touches && r.At != 0
	}
	return holds(met)
}

// touchesByHand is of P2 too, by no function of the program, and of what was ahead of the step.
func touchesByHand(h happening) (bool, string) {
	for k, hand := range h.is.Hands {
		if !plainTouch(h.is, k) {
			return breaks("hand", k, "is about to touch what is not there as it saw it:", hand, "of", h.is.Arena)
		}
	}
	k, stepped := h.steps()
	if !stepped {
		return holds(false)
	}
	if !plainTouch(h.was, k) {
		return breaks("hand", k, "touched what was not there as it saw it:", h.was.Hands[k], "of", h.was.Arena)
	}
	_, met := touched(h.was.Hands[k])[h.was.Hands[k].Pc]
	return holds(met)
}

// P3
func noneIsLost(h happening) (bool, string) {
	if lost := impl.AudLost(h.is); len(lost) > 0 {
		return breaks("places", lost, "are lost, behind", h.event)
	}
	return holds(len(impl.AudHeld(h.is)) > 0 || len(impl.PolOut(h.is.Pool)) > 0)
}

func noneIsTwice(h happening) (bool, string) {
	if impl.AudTwice(h.is) {
		return breaks("a place is in two, behind", h.event, "held", impl.AudHeld(h.is))
	}
	return holds(len(impl.AudHeld(h.is)) > 1)
}

// onceByHand is of P3 too, by no function of the program: each place is found just once.
func onceByHand(h happening) (bool, string) {
	for at, times := range found(h.is) {
		if at != 0 && times != 1 {
			return breaks("place", at, "is found so often:", times, "behind", h.event)
		}
	}
	return holds(len(plainHeld(h.is)) > 0)
}

// P57
func seesWhatIsOrWas(h happening) (bool, string) {
	met := false
	var out []int
	for _, taken := range h.is.Pool.Limbo {
		for _, old := range taken {
			out = append(out, old.Node)
		}
	}
	for _, hand := range h.is.Hands {
		out = append(out, hand.Old.At)
	}
	for k, hand := range h.is.Hands {
		if !slices.Contains(currSeenPcs, hand.Pc) || hand.Curr.At == 0 {
			continue
		}
		there := slices.Contains(inAll(h.is.Arena), hand.Curr.At)
		if !there && !slices.Contains(out, hand.Curr.At) {
			return breaks("hand", k, "sees place", hand.Curr, "which is not there, and was not taken out:", h.is.Pool)
		}
		met = met || !there
	}
	return holds(met)
}
