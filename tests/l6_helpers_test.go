package tests

import (
	"slices"
	"testing"

	"loop.example/tuggers/impl"
)

func stepOf(k int) impl.EvEvent {
	return impl.EvEvent{Hand: k}
}

func callOf(k int, o impl.OpOp) impl.EvEvent {
	return impl.EvEvent{Hand: k, Op: o}
}

// The five below are the document's words for what happens, by WldStep and WldCall, and, where a world that is not ok any more is gone on with, by the table; of a world that is ok at first, and of numbers in their bounds.

func doneByHand(w impl.WldWorld, e impl.EvEvent) impl.WldWorld {
	if !impl.WldOk(w) {
		return tableDo(w, e)
	}
	if e.Op.Kind == 0 {
		return impl.WldStep(w, e.Hand)
	}
	return impl.WldCall(w, e.Hand, e.Op)
}

func runByHand(w impl.WldWorld, events []impl.EvEvent) impl.WldWorld {
	w = cloneWorld(w)
	for _, e := range events {
		w = doneByHand(w, e)
	}
	return w
}

func workByHand(w impl.WldWorld, k, most int) (impl.WldWorld, int) {
	w = cloneWorld(w)
	n := 0
	for n < most && impl.WldOk(w) && w.Hands[k].Pc != impl.PcIdle && w.Clock < impl.ClkMost {
		w = impl.WldStep(w, k)
		n++
	}
	return w, n
}

func roundByHand(w impl.WldWorld, n int) impl.WldWorld {
	w = cloneWorld(w)
	for range n {
		for k := range impl.PolHands {
			w = doneByHand(w, stepOf(k))
		}
	}
	return w
}

func tidyByHand(w impl.WldWorld, n int) impl.WldWorld {
	w = cloneWorld(w)
	if !allIdle(w) {
		return w
	}
	for range n {
		for k := range impl.PolHands {
			w = doneByHand(w, callOf(k, clearOp))
			for n := 0; n < 500 && w.Hands[k].Pc != impl.PcIdle && w.Clock < impl.ClkMost; n++ {
				w = doneByHand(w, stepOf(k))
			}
		}
	}
	return w
}

func allIdle(w impl.WldWorld) bool {
	return !slices.ContainsFunc(w.Hands, func(h impl.HndHand) bool { return h.Pc != impl.PcIdle })
}

// mix is what hands are asked, of few keys, so that they come into each other's way.
type mix struct {
	name  string
	kinds []int
	keys  int
}

func mixes() []mix {
	return []mix{
		{"all", pcs(1, 12), 4},
		{"the map", []int{1, 2, 2, 2, 3, 3, 9, 10, 4}, 4},
		{"one key", []int{1, 2, 3, 3, 9, 10, 4}, 1},
		{"the stack", []int{5, 5, 6, 6, 11, 4}, 1},
		{"the queue", []int{7, 7, 8, 8, 12, 4}, 1},
		{"no room", []int{2, 2, 2, 5, 5, 7, 7, 3, 6, 8, 4}, 9},
		{"who counts", []int{2, 3, 10, 10}, 3},
		{"who clears up", []int{4, 4, 4, 2, 3, 5, 6, 7, 8}, 2},
	}
}

// player is what happens in a run: hand by hand, each for a while.
type player struct {
	chance
	mix
	hand int
	left int
	// most is how long a hand goes on at most while the others stand still.
	most int
}

// newPlayer is another one for each number.
func newPlayer(n int) *player {
	all := mixes()
	return &player{chance: chance(n), mix: all[n%len(all)], most: []int{1, 3, 12, 60}[n/len(all)%4]}
}

// asks is something that may be asked.
func (p *player) asks() impl.OpOp {
	o := impl.OpOp{Kind: p.kinds[p.below(len(p.kinds))]}
	has := kinds()[o.Kind-1]
	if has.key {
		o.Key = p.below(p.keys)
	}
	if has.val {
		o.Val = p.below(impl.ValMax + 1)
	}
	return o
}

// odd is what leaves a world as it is, or nearly so: it is of no such hand, of what may not be asked, or asked of who may be busy.
func (p *player) odd() impl.EvEvent {
	odds := []impl.EvEvent{
		stepOf(-1), stepOf(3), stepOf(p.hand), callOf(-1, popOp), callOf(3, popOp),
		callOf(p.hand, op(impl.OpPop, 1)), callOf(p.hand, op(13)), callOf(p.hand, op(-1)), callOf(p.hand, p.asks()),
	}
	return odds[p.below(len(odds))]
}

// next is what happens next in a world.
func (p *player) next(w impl.WldWorld) impl.EvEvent {
	if p.left == 0 {
		p.hand, p.left = p.below(impl.PolHands), 1+p.below(p.most)
	}
	p.left--
	if p.below(32) == 0 {
		return p.odd()
	}
	if w.Hands[p.hand].Pc == impl.PcIdle {
		return callOf(p.hand, p.asks())
	}
	return stepOf(p.hand)
}

// happening is one thing that happened: the world ahead of it, that behind it, and what it was.
type happening struct {
	was   impl.WldWorld
	event impl.EvEvent
	is    impl.WldWorld
}

// steps says whether it was a step that a hand did, and of which.
func (h happening) steps() (int, bool) {
	return h.event.Hand, h.is.Clock > h.was.Clock
}

// play lets so many things happen, from a new world on.
func play(t *testing.T, n, size int, tell func(happening)) impl.WldWorld {
	t.Helper()
	p := newPlayer(n)
	w := impl.WldNew()
	for range size {
		h := happening{was: w, event: p.next(w)}
		h.is = impl.WldDo(w, h.event)
		if len(h.is.Hands) != impl.PolHands {
			t.Fatalf("run %d: nothing is left behind %v", n, h.event)
		}
		tell(h)
		w = h.is
	}
	return w
}

// eventsOf are the things that happen in a run.
func eventsOf(t *testing.T, n, size int) []impl.EvEvent {
	t.Helper()
	var events []impl.EvEvent
	play(t, n, size, func(h happening) { events = append(events, h.event) })
	return events
}

// someRuns is how many runs there are, of each mix, by each way to take turns.
const someRuns = 96

// eachWorld hands out worlds to which runs come, with hands anywhere.
func eachWorld(t *testing.T, every int, do func(n int, w impl.WldWorld)) {
	t.Helper()
	for n := range someRuns {
		at := 0
		play(t, n, 400, func(h happening) {
			if at++; at%every == 0 {
				do(n, h.is)
			}
		})
	}
}

// brokenSteps are worlds that are ok, and of which a step of the acting hand leaves one that is not, with that.
func brokenSteps() map[string][2]impl.WldWorld {
	all := map[string][2]impl.WldWorld{}
	for name, c := range stepCases() {
		if is := c.behind(); !impl.WldOk(is) {
			all[name] = [2]impl.WldWorld{c.world(), is}
		}
	}
	return all
}
