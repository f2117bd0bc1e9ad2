package tests

import (
	"fmt"
	"slices"

	"loop.example/tuggers/impl"
)

// watcher looks at one thing that happened: whether it was of the kind of which a promise tells something, and how that is broken; empty, if it holds.
type watcher func(h happening) (met bool, broken string)

func holds(met bool) (bool, string) {
	return met, ""
}

func breaks(parts ...any) (bool, string) {
	return true, fmt.Sprintln(parts...)
}

// sameGen says whether a place is in use, as often taken as it was.
func sameGen(h happening, at int) bool {
	was, is := h.was.Arena.Nodes[at], h.is.Arena.Nodes[at]
	return was.Used && is.Used && was.Gen == is.Gen
}

// inAll are the places of map, stack and queue.
func inAll(a impl.ArnArena) []int {
	return slices.Concat(impl.ArnChain(a), impl.ArnStacked(a), impl.ArnQueued(a))
}

// becameSo says whether a hand's answer is so for good just as of this.
func becameSo(h happening, k int) bool {
	return !h.was.Hands[k].Done && h.is.Hands[k].Done
}

// becameIdle says whether a hand answered.
func becameIdle(h happening, k int) bool {
	return h.was.Hands[k].Pc != impl.PcIdle && h.is.Hands[k].Pc == impl.PcIdle
}

// P6
func toldNoRoom(h happening) (bool, string) {
	met := false
	for k := range impl.PolHands {
		if !becameSo(h, k) || h.is.Hands[k].Res.Code != impl.ResFull {
			continue
		}
		met = true
		if free := impl.ArnFree(h.was.Arena); free != 0 {
			return breaks("hand", k, "is told that there is no room, and", free, "places were free")
		}
	}
	return holds(met)
}

// P28
func staysOk(h happening) (bool, string) {
	if !impl.WldOk(h.is) {
		return breaks("the world is not ok")
	}
	return holds(true)
}

// P29
func marksStay(h happening) (bool, string) {
	met := false
	for at, was := range h.was.Arena.Nodes {
		if !was.Used || was.Word%2 == 0 {
			continue
		}
		met = true
		if is := h.is.Arena.Nodes[at]; is.Used && is.Word != was.Word {
			return breaks("the marked word of place", at, "was", was.Word, "and is", is.Word)
		}
	}
	return holds(met)
}

// P30
func epochWaits(h happening) (bool, string) {
	grown := h.is.Pool.Epoch - h.was.Pool.Epoch
	if grown < 0 || grown > 1 {
		return breaks("the epoch goes on by", grown)
	}
	for k, hand := range h.is.Hands {
		pin := h.is.Pool.Pins[k]
		if slices.Contains(pinnedPcs, hand.Pc) && (pin == 0 || h.is.Pool.Epoch-(pin-1) > 1) {
			return breaks("hand", k, "holds places, its pin is", pin, "and the epoch", h.is.Pool.Epoch)
		}
	}
	return holds(grown == 1)
}

// P31
func pointsInOrder(h happening) (bool, string) {
	if len(h.is.Log) == len(h.was.Log) {
		return holds(false)
	}
	met := false
	last := lastAnswer(h.is)
	for at, r := range h.is.Log[:len(h.is.Log)-1] {
		if r.Point == last.Point {
			return breaks("answers", at, r, "and", last, "became so at once")
		}
		if r.End <= last.Begin && r.Point >= last.Point || last.End <= r.Begin && last.Point >= r.Point {
			return breaks("answers", at, r, "and", last, "became so in another order")
		}
		met = true
	}
	return holds(met)
}

// P53
func doneStays(h happening) (bool, string) {
	met := false
	for k, was := range h.was.Hands {
		if !was.Done {
			continue
		}
		is := h.is.Hands[k]
		if becameIdle(h, k) {
			want := impl.LogRec{Hand: k, Op: was.Op, Res: was.Res, Begin: was.Begin, Point: was.Point, End: h.is.Clock}
			if len(h.was.Log) < impl.LogMost && lastAnswer(h.is) != want {
				return breaks("hand", k, "answered", lastAnswer(h.is), "and not", want)
			}
			met = true
		} else if !is.Done || is.Res != was.Res || is.Point != was.Point || is.Op != was.Op || is.Begin != was.Begin {
			return breaks("what hand", k, "answers turned from", was, "to", is)
		}
	}
	return holds(met)
}

// P54
func logGrows(h happening) (bool, string) {
	idle := 0
	for k := range impl.PolHands {
		if becameIdle(h, k) {
			idle++
		}
	}
	grown := len(h.is.Log) - len(h.was.Log)
	if grown < 0 || !slices.Equal(h.is.Log[:len(h.was.Log)], h.was.Log) {
		return breaks("the log was", h.was.Log, "and is", h.is.Log)
	}
	if want := min(idle, impl.LogMost-len(h.was.Log)); grown != want {
		return breaks("the log has", grown, "answers more, and", idle, "hands became idle")
	}
	return holds(grown == 1)
}

// P55
func takenOutStays(h happening) (bool, string) {
	there := map[impl.PolOld]int{}
	for k, taken := range h.is.Pool.Limbo {
		for _, old := range taken {
			there[old] = k + 1
			if !h.is.Arena.Nodes[old.Node].Used || slices.Contains(inAll(h.is.Arena), old.Node) {
				return breaks("place", old.Node, "was taken out, and is in use no more, or in map, stack or queue")
			}
		}
	}
	met := false
	for k, taken := range h.was.Pool.Limbo {
		for _, old := range taken {
			if there[old] == k+1 {
				if !sameGen(h, old.Node) {
					return breaks("place", old.Node, "was taken again while it was taken out")
				}
				continue
			}
			met = true
			if h.is.Pool.Epoch < old.Epoch+2 {
				return breaks("place", old.Node, "was taken out in epoch", old.Epoch, "and came back in", h.is.Pool.Epoch)
			}
		}
	}
	return holds(met)
}

// notedNow is of P55 too: what is noted is noted in the epoch that there is.
func notedNow(h happening) (bool, string) {
	met := false
	for k, taken := range h.is.Pool.Limbo {
		for _, old := range taken {
			if !slices.Contains(h.was.Pool.Limbo[k], old) {
				met = true
				if old.Epoch != h.was.Pool.Epoch {
					return breaks("place", old.Node, "is noted in epoch", old.Epoch, "and not in", h.was.Pool.Epoch)
				}
			}
		}
	}
	return holds(met)
}

// P56
func lastIsNear(h happening) (bool, string) {
	queued := impl.ArnQueued(h.is.Arena)
	at := slices.Index(queued, h.is.Arena.Last)
	if !impl.ArnOk(h.is.Arena) || at < 0 || at < len(queued)-2 {
		return breaks("the queue is at", queued, "and its last one at", h.is.Arena.Last)
	}
	// Just who put a place in, and has not brought the last one on yet, lets it be late.
	late := at == len(queued)-2
	if late && !slices.ContainsFunc(h.is.Hands, func(hand impl.HndHand) bool { return hand.Pc == impl.PcSwing }) {
		return breaks("the queue is at", queued, "its last one at", h.is.Arena.Last, "and nobody brings it on")
	}
	return holds(late)
}

// enteredBehind is of P56 too: who entered finds, behind its end, that its place is not behind the last one.
func enteredBehind(h happening) (bool, string) {
	k, _ := h.steps()
	if k < 0 || k >= impl.PolHands || !becameIdle(h, k) || h.was.Hands[k].Op.Kind != impl.OpEnter || h.was.Hands[k].Res.Code != impl.ResYes {
		return holds(false)
	}
	queued := impl.ArnQueued(h.is.Arena)
	own := h.was.Hands[k].Succ / 2
	if own == 0 || slices.Contains(queued[slices.Index(queued, h.is.Arena.Last)+1:], own) {
		return breaks("hand", k, "entered at", own, "and left the last one at", h.is.Arena.Last, "of", queued)
	}
	_, broken := lastIsNear(h)
	return true, broken
}

// P73
func idleIsNotPinned(h happening) (bool, string) {
	met := false
	for k, hand := range h.is.Hands {
		pin := h.is.Pool.Pins[k]
		if pin < 0 || pin > h.is.Pool.Epoch+1 {
			return breaks("the pin of hand", k, "is", pin, "and the epoch", h.is.Pool.Epoch)
		}
		if (hand.Pc == impl.PcIdle || slices.Contains(unpinnedPcs, hand.Pc)) && pin != 0 {
			return breaks("hand", k, "is at", hand.Pc, "and its pin is", pin)
		}
		met = met || h.was.Pool.Pins[k] != 0 && pin == 0
	}
	return holds(met)
}

// P74
func gensGrow(h happening) (bool, string) {
	k, stepped := h.steps()
	met := false
	for at, was := range h.was.Arena.Nodes {
		is := h.is.Arena.Nodes[at]
		want := was.Gen
		if !was.Used && is.Used {
			met = true
			want++
			if !stepped || h.was.Hands[k].Pc != impl.PcTake || h.is.Hands[k].Own != (impl.HndRef{At: at, Gen: is.Gen}) {
				return breaks("place", at, "is in use, and nobody took it")
			}
		}
		if is.Gen != want {
			return breaks("place", at, "was taken", was.Gen, "times, and was so", is.Gen, "times behind", h.event)
		}
	}
	return holds(met)
}

// P75
func ownIsNobodyElses(h happening) (bool, string) {
	met := false
	for k, hand := range h.is.Hands {
		own := hand.Own
		if hand.Pc == impl.PcIdle || own.At == 0 {
			continue
		}
		met = true
		if n := h.is.Arena.Nodes[own.At]; !n.Used || n.Gen != own.Gen {
			return breaks("hand", k, "took place", own, "which is", n)
		}
		if slices.Contains(inAll(h.is.Arena), own.At) || slices.Contains(impl.PolOut(h.is.Pool), own.At) {
			return breaks("hand", k, "took place", own, "which is in map, stack or queue, or was taken out")
		}
		for other, o := range h.is.Hands {
			if other != k && (o.Own.At == own.At || o.Old.At == own.At || o.Pred == own || o.Curr == own) {
				return breaks("hand", k, "took place", own, "which hand", other, "holds:", o)
			}
		}
	}
	return holds(met)
}

// P86
func turnsAreCounted(h happening) (bool, string) {
	met := false
	for _, at := range append(inAll(h.was.Arena), 0) {
		if !sameGen(h, at) {
			continue
		}
		was, is := h.was.Arena.Nodes[at], h.is.Arena.Nodes[at]
		want := was.Ver
		if is.Word != was.Word {
			met = true
			want++
		}
		if is.Ver != want {
			return breaks("the word of place", at, "was", was.Word, was.Ver, "and is", is.Word, is.Ver)
		}
	}
	return holds(met)
}

// P87
func lookersTurnNothing(h happening) (bool, string) {
	k, stepped := h.steps()
	if !stepped || !slices.Contains([]int{impl.OpCount, impl.OpTop, impl.OpFront}, h.was.Hands[k].Op.Kind) {
		return holds(false)
	}
	if !sameArena(h.was.Arena, h.is.Arena) {
		return breaks("hand", k, "looks, and turned places from", h.was.Arena, "to", h.is.Arena)
	}
	return holds(true)
}

// seenPlace is a place as it looked to who counts.
type seenPlace struct {
	at, word, ver int
}

// looks is what a hand that counts saw, a list for each look at all places, the last one first begun.
type looks [impl.PolHands][][]seenPlace

// P89
func (l *looks) seenTwice(h happening) (bool, string) {
	k, stepped := h.steps()
	if !stepped || h.was.Hands[k].Op.Kind != impl.OpCount {
		return holds(false)
	}
	was := h.was.Hands[k]
	switch was.Pc {
	case impl.PcEpoch:
		l[k] = nil
	case impl.PcWalk:
		l[k] = append(l[k], []seenPlace{seen(h.was.Arena, 0)})
	case impl.PcCount:
		at := len(l[k]) - 1
		l[k][at] = append(l[k][at], seen(h.was.Arena, was.Curr.At))
	}
	if !becameSo(h, k) {
		return holds(false)
	}
	size := len(l[k])
	if size < 2 || !slices.Equal(l[k][size-1], l[k][size-2]) {
		return breaks("hand", k, "is told", h.is.Hands[k].Res, "and saw", l[k])
	}
	return holds(size > 2)
}

func seen(a impl.ArnArena, at int) seenPlace {
	return seenPlace{at, a.Nodes[at].Word, a.Nodes[at].Ver}
}

// wholeLook is of P89 too: both looks went from the head to the end, by what the places led to.
func (l *looks) wholeLook(h happening) (bool, string) {
	if _, broken := l.seenTwice(h); broken != "" {
		return true, broken
	}
	k, stepped := h.steps()
	if !stepped || h.was.Hands[k].Op.Kind != impl.OpCount || !becameSo(h, k) {
		return holds(false)
	}
	at := 0
	for _, s := range l[k][len(l[k])-1] {
		if s.at != at {
			return breaks("hand", k, "went by", s.at, "and not by", at)
		}
		at = s.word / 2
	}
	if at != 0 {
		return breaks("hand", k, "stopped ahead of", at)
	}
	return holds(true)
}
