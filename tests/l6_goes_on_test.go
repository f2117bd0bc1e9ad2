package tests

import (
	"math"
	"slices"
	"testing"

	"loop.example/tuggers/impl"
)

// "In a run, a round and a tidying a world that is not ok any more is gone on with all the same."

// stepsOf are steps of hands, in turn.
func stepsOf(hands ...int) []impl.EvEvent {
	var events []impl.EvEvent
	for _, k := range hands {
		events = append(events, stepOf(k))
	}
	return events
}

// goingOn is a world that is ok, and what happens in it; the first so many things leave it ok, and the next one does not.
type goingOn struct {
	ahead  turn
	pc     int
	op     impl.OpOp
	events []impl.EvEvent
	okFor  int
	then   turn
}

func (c goingOn) world() impl.WldWorld {
	w := onlyActing(busyWorld(c.pc, c.op))
	c.ahead(&w, &w.Hands[acting])
	return w
}

func (c goingOn) behind() impl.WldWorld {
	w := c.world()
	c.then(&w, &w.Hands[acting])
	return w
}

func at(k int, do turn) turn {
	return func(w *impl.WldWorld, _ *impl.HndHand) { do(w, &w.Hands[k]) }
}

func clockIs(now int) turn {
	return func(w *impl.WldWorld, _ *impl.HndHand) { w.Clock = now }
}

// takenNow is a place that was taken, so often by now, and has nothing else yet.
func takenNow(place, times int) turn {
	return func(w *impl.WldWorld, _ *impl.HndHand) { w.Arena.Nodes[place] = impl.ArnNode{Used: true, Gen: times} }
}

func notes(r impl.LogRec) turn {
	return func(w *impl.WldWorld, h *impl.HndHand) {
		w.Log = append(slices.Clone(w.Log), r)
		*h = impl.HndHand{}
	}
}

// goingsOn are by what happens in them; each is gone on with by the table's words.
func goingsOn() map[string]goingOn {
	joined := and(swapped(5, 0), succIs(0), ownIs(0), tells(yes(0)), done, pointIs(52))
	return map[string]goingOn{
		"takes a place, and has one": {
			pc: impl.PcCheck, op: pushOp, ahead: and(ownIs(3), free(9)), events: stepsOf(acting, acting), okFor: 0,
			then: and(clockIs(52), takenNow(9, 20), ownIs(9), at(acting, func(_ *impl.WldWorld, h *impl.HndHand) { h.Own.Gen = 20 }), to(impl.PcFill)),
		},
		"takes none, and has one": {
			pc: impl.PcCheck, op: pushOp, ahead: ownIs(3), events: stepsOf(acting, acting), okFor: 0,
			then: and(clockIs(52), tells(full), done, pointIs(52), to(impl.PcUnpin)),
		},
		"another one is asked": {
			pc: impl.PcCheck, op: enterOp, ahead: ownIs(3), events: []impl.EvEvent{stepOf(acting), callOf(0, getOp), callOf(acting, popOp), stepOf(7), callOf(-1, popOp), callOf(2, op(13)), stepOf(0)}, okFor: 0,
			then: and(clockIs(52), to(impl.PcTake), at(0, func(_ *impl.WldWorld, h *impl.HndHand) {
				*h = impl.HndHand{Pc: impl.PcPin, Op: getOp, Begin: 51, Seen: epochThen}
			})),
		},
		"puts none in": {
			pc: impl.PcBehind, op: enterOp, ahead: currIs(5), events: stepsOf(acting, acting), okFor: 0,
			then: and(clockIs(52), joined, to(impl.PcSwing)),
		},
		"puts none in, and brings Last on to it": {
			pc: impl.PcBehind, op: enterOp, ahead: currIs(5), events: stepsOf(acting, acting, acting, acting, acting), okFor: 0,
			then: and(clockIs(55), joined, lastIs(0), pinIs(acting, 0), notes(impl.LogRec{Hand: acting, Op: enterOp, Res: yes(0), Begin: 3, Point: 52, End: 55})),
		},
		"pushes none": {
			pc: impl.PcTop, op: pushOp, ahead: asIs, events: stepsOf(acting, acting, acting), okFor: 0,
			then: and(clockIs(53), currIs(8), topIs(0), tells(yes(0)), done, pointIs(53), to(impl.PcUnpin)),
		},
		"takes a place where Last is none": {
			pc: impl.PcHelp, op: enterOp, ahead: and(currIs(5), succIs(0), free(9), busyAt(0, impl.PcTake, putOp)), events: stepsOf(acting, 0, 0, acting, acting), okFor: 0,
			then: and(clockIs(55), lastIs(0), takenNow(9, 20), func(w *impl.WldWorld, h *impl.HndHand) {
				w.Hands[0].Own = impl.HndRef{At: 9, Gen: 20}
				w.Arena.Nodes[9].Key, w.Arena.Nodes[9].Val, w.Arena.Nodes[9].Word = 20, 77, 4
				w.Hands[0].Pc = impl.PcLink
				h.Curr, h.Succ = impl.HndRef{}, 8
			}, to(impl.PcHelp)),
		},
		"gives a place back where Last is none": {
			pc: impl.PcHelp, op: enterOp, ahead: and(currIs(5), succIs(0), busyAt(0, impl.PcGive, putOp)), events: stepsOf(acting, 0), okFor: 0,
			then: and(clockIs(52), lastIs(0), free(3), to(impl.PcLast), at(0, and(ownIs(0), to(impl.PcUnpin)))),
		},
		"turns words where Last is none": {
			pc: impl.PcHelp, op: enterOp, ahead: and(currIs(5), succIs(0), busyAt(0, impl.PcMark, delOp), at(0, and(predIs(4), currIs(2), succIs(0)))), events: stepsOf(acting, 0, 0, 0), okFor: 0,
			then: and(clockIs(54), lastIs(0), swapped(2, 1), swapped(4, 0), to(impl.PcLast), at(0, and(done, pointIs(52), currIs(0), oldIs(0))), takenIs(0, 2, epochThen), at(0, to(impl.PcUnpin))),
		},
		"notes what was noted": {
			pc: impl.PcRetire, op: delOp, ahead: oldIs(7), events: stepsOf(acting, acting), okFor: 0,
			then: and(clockIs(52), takenIs(acting, 7, 2, 7, epochThen), oldIs(0), succIs(0), readIs(52), to(impl.PcKey)),
		},
		"finds none to give back where one was noted twice": {
			pc: impl.PcRetire, op: delOp, ahead: and(oldIs(7), takenIs(acting, 7, 2, 9, 0), busyAt(0, impl.PcFree, clearOp), takenIs(0, 3, 0), pinIs(0, 0)), events: stepsOf(0, acting, 0), okFor: 1,
			then: and(clockIs(53), free(3), takenIs(0), takenIs(acting, 7, 2, 9, 0, 7, epochThen), oldIs(0), to(impl.PcNext), at(0, and(tells(yes(0)), done, pointIs(53), to(impl.PcEnd)))),
		},
	}
}

func readIs(time int) turn {
	return func(_ *impl.WldWorld, h *impl.HndHand) { h.Read = time }
}

// busyAt lets another hand be somewhere, as it may be.
func busyAt(k, pc int, o impl.OpOp) turn {
	return func(w *impl.WldWorld, _ *impl.HndHand) {
		w.Hands[k] = busyHandAt(pc, o)
		w.Pool.Pins[k] = epochThen
		if slices.Contains(unpinnedPcs, pc) {
			w.Pool.Pins[k] = 0
		}
	}
}

func TestRunsGoOnByTheTable(t *testing.T) {
	for name, c := range goingsOn() {
		w := c.world()
		wantWorldOk(t, w, true, name, "at first")
		wantWorldOk(t, impl.WldRun(w, c.events[:c.okFor]), true, name, "as long as it is")
		wantWorldOk(t, impl.WldRun(w, c.events[:c.okFor+1]), false, name, "behind that")
		got := impl.WldRun(w, c.events)
		wantWorld(t, got, c.behind(), name)
		wantWorld(t, runByHand(w, c.events), c.behind(), name, "by hand")
		wantWorld(t, w, c.world(), name, "the argument")
	}
}

// One who is not at all at its end goes on in rounds too.
func TestRoundsGoOnByTheTable(t *testing.T) {
	for name, c := range goingsOn() {
		for _, k := range []int{0, acting, 2} {
			w := swappedHands(c.world(), k)
			for _, rounds := range []int{1, 2, 3, 5, 9, 40, 500} {
				wantWorld(t, impl.WldRound(w, rounds), roundByHand(w, rounds), name, "hand", k, "rounds", rounds)
			}
		}
	}
	for name, ws := range brokenSteps() {
		was, is := onlyActing(ws[0]), onlyActing(ws[1])
		last := impl.PolHands - 1
		was, is = swappedHands(was, last), swappedHands(is, last)
		wantWorld(t, impl.WldRound(was, 1), is, name, "it comes last")
		wantWorld(t, impl.WldRound(was, 3), roundByHand(was, 3), name, "and more")
	}
}

// Whatever comes behind a step that leaves a world that is not ok is done.
func TestRunsGoOnBehindEachBrokenStep(t *testing.T) {
	met := 0
	for name, ws := range brokenSteps() {
		met++
		wantWorld(t, impl.WldRun(ws[0], stepsOf(acting)), ws[1], name)
		wantWorld(t, impl.WldRun(ws[0], stepsOf(3, acting)), ws[1], name, "behind no hand")
		for _, e := range []impl.EvEvent{stepOf(0), stepOf(acting), stepOf(3), callOf(0, popOp), callOf(-1, op(13))} {
			wantWorld(t, impl.WldRun(ws[0], []impl.EvEvent{stepOf(acting), e}), tableDo(ws[1], e), name, "and then", e)
			want := tableDo(tableDo(ws[1], e), stepOf(acting))
			wantWorld(t, impl.WldRun(ws[0], []impl.EvEvent{stepOf(acting), e, stepOf(acting)}), want, name, "and then, and on", e)
		}
	}
	if met == 0 {
		t.Error("no step leaves a world that is not ok")
	}
}

// Where the queue's last word is marked it leads to none, and so First comes to be none: what is taken out then is none either.
func TestRunsTakeNoneOut(t *testing.T) {
	c := goingOn{pc: impl.PcMark, op: delOp, ahead: and(currIs(5), succIs(0))}
	w := c.world()
	wantWorldOk(t, w, true, "at first")
	events := stepsOf(acting)
	for range 3 {
		events = append(events, callOf(0, leaveOp))
		events = append(events, slices.Repeat(stepsOf(0), 20)...)
	}
	got := impl.WldRun(w, events)
	wantWorld(t, got, runByHand(w, events), "all")
	if !slices.Equal(got.Pool.Limbo[0], olds(6, epochThen, 5, epochThen)) || len(got.Log) != 5 {
		t.Errorf("taken out are %v, of answers %v", got.Pool.Limbo[0], got.Log[2:])
	}
}

// That is said of what comes on the way alone: of a world that comes in, and is not ok, nothing is left.
func TestStepsDoNotGoOn(t *testing.T) {
	for name, c := range goingsOn() {
		w := impl.WldRun(c.world(), c.events[:c.okFor+1])
		wantWorldOk(t, w, false, name)
		for k := range impl.PolHands {
			wantWorld(t, impl.WldStep(w, k), impl.WldWorld{}, name, k)
			wantWorld(t, impl.WldCall(w, k, popOp), impl.WldWorld{}, name, k)
			wantWorld(t, impl.WldDo(w, stepOf(k)), impl.WldWorld{}, name, k)
			wantWork(t, w, k, 5, impl.WldWorld{}, 0, name)
		}
		wantWorld(t, impl.WldRun(w, nil), impl.WldWorld{}, name)
		wantWorld(t, impl.WldRound(w, 0), impl.WldWorld{}, name)
		wantWorld(t, impl.WldTidy(w, 0), impl.WldWorld{}, name)
	}
}

// wild is worlds that are ok, as no run comes to: hands that hold whatever they may.
type wild struct {
	chance
}

func (c *wild) oneIn(most int) bool {
	return c.below(most) == 0
}

func (c *wild) ref(is impl.HndRef) impl.HndRef {
	switch c.below(6) {
	case 0:
		return ref(c.below(10))
	case 1:
		return impl.HndRef{}
	case 2:
		return noPlaces()[c.below(len(noPlaces()))]
	}
	return is
}

func (c *wild) hand(w *impl.WldWorld, k int) impl.HndHand {
	if c.oneIn(6) {
		w.Pool.Pins[k] = 0
		return impl.HndHand{}
	}
	h := busyHandAt(1+c.below(40), oneOfEachKind()[c.below(12)])
	h.Pred, h.Curr, h.Own, h.Old = c.ref(h.Pred), c.ref(h.Curr), c.ref(h.Own), c.ref(h.Old)
	if c.oneIn(3) {
		h.Succ = c.below(20)
	}
	h.Done = h.Done || c.oneIn(3)
	h.Seen = epochThen - c.below(2)
	h.Res = []impl.ResRes{{}, no, full, yes(9)}[c.below(4)]
	w.Pool.Pins[k] = epochThen + c.below(2)
	if c.oneIn(4) || slices.Contains(unpinnedPcs, h.Pc) {
		w.Pool.Pins[k] = 0
	}
	return h
}

func (c *wild) arena() impl.ArnArena {
	a := busyArena()
	for _, place := range []int{3, 7, 9} {
		if c.oneIn(2) {
			a.Nodes[place] = impl.ArnNode{Gen: place + 10}
		}
	}
	for _, place := range []int{4, 2} {
		if c.oneIn(5) {
			a.Nodes[place].Word |= 1
		}
	}
	if c.oneIn(8) {
		a.Nodes[c.below(10)].Ver = math.MaxInt
	}
	if c.oneIn(4) {
		a.Last = 6
	}
	return a
}

// world is one that is ok.
func (c *wild) world() impl.WldWorld {
	for {
		w := impl.WldWorld{Arena: c.arena(), Clock: clockThen, Pool: pool(epochThen, make([]int, 3), nil, nil, nil)}
		for range c.below(3) {
			k := c.below(3)
			w.Pool.Limbo[k] = append(w.Pool.Limbo[k], impl.PolOld{Node: []int{3, 7, 9}[c.below(3)], Epoch: c.below(6)})
		}
		for k := range impl.PolHands {
			w.Hands = append(w.Hands, c.hand(&w, k))
		}
		if impl.WldOk(w) {
			return w
		}
	}
}

func (c *wild) events(size int) []impl.EvEvent {
	var events []impl.EvEvent
	k := 0
	for len(events) < size {
		if c.oneIn(4) {
			k = c.below(3)
		}
		if c.oneIn(9) {
			events = append(events, callOf(c.below(3), c.anyOp()))
			continue
		}
		events = append(events, stepOf(k))
	}
	return events
}

// stepsGoneOn counts, by where a hand is, the steps that are done in worlds that are not ok any more.
func stepsGoneOn(w impl.WldWorld, events []impl.EvEvent, count *[41]int) {
	ok := true
	for _, e := range events {
		ok = ok && impl.WldOk(w)
		if !ok && e.Op.Kind == 0 {
			count[w.Hands[e.Hand].Pc]++
		}
		w = tableDo(w, e)
	}
}

// Whatever a world may be that is ok, a run of it ends, and is the table's; and hands come anywhere in what is not ok any more.
func TestRunsOfWildWorlds(t *testing.T) {
	var count [41]int
	for n := range 2500 {
		c := wild{chance(n)}
		w, events := c.world(), c.events(90)
		for _, size := range []int{1, 2, 3, 5, 9, 25, 90} {
			wantWorld(t, impl.WldRun(w, events[:size]), runByHand(w, events[:size]), "world", n, "so many", size)
		}
		for _, rounds := range []int{1, 4, 30} {
			wantWorld(t, impl.WldRound(w, rounds), roundByHand(w, rounds), "world", n, "rounds", rounds)
		}
		stepsGoneOn(w, events, &count)
		if t.Failed() {
			return
		}
	}
	for _, pc := range everyPc() {
		if count[pc] < 10 {
			t.Errorf("just %d steps from %d were gone on with", count[pc], pc)
		}
	}
}

// The table is that of the world's chapter: of a world that is ok it is what WldStep and WldCall leave.
func TestTableOfWorldsThatAreOk(t *testing.T) {
	for name, c := range stepCases() {
		wantWorld(t, tableDo(c.world(), stepOf(acting)), c.behind(), name)
	}
	for n := range 6000 {
		c := wild{chance(n)}
		w := c.world()
		for k := range impl.PolHands {
			wantWorld(t, impl.WldStep(w, k), tableDo(w, stepOf(k)), "world", n, "hand", k)
			o := c.anyOp()
			wantWorld(t, impl.WldCall(w, k, o), tableDo(w, callOf(k, o)), "world", n, "hand", k, o)
		}
	}
}

// A tidying goes on where a word was turned once too often: what was taken out is given back all the same.
func TestTidyGoesOnThoughTheWorldIsNotOk(t *testing.T) {
	wantWorldOk(t, onceTooOften(), true, "ahead of it")
	is, steps := impl.WldWork(impl.WldCall(onceTooOften(), 0, clearOp), 0, 500)
	if impl.WldOk(is) || len(is.Hands) == 0 || steps != 6 {
		t.Fatalf("behind %d steps there is %+v", steps, is)
	}
	for times := 1; times <= 9; times++ {
		got := impl.WldTidy(onceTooOften(), times)
		wantWorld(t, got, tidyByHand(onceTooOften(), times), times)
		wantWorldOk(t, got, false, times)
		wantCleared(t, got.Log[len(onceTooOften().Log):], 3*times)
		if !allIdle(got) || got.Arena.Nodes[4].Used != (times == 1) {
			t.Errorf("%d times leave %+v", times, got)
		}
	}
}

// In a world that is not ok any more a hand goes on till the clock ends.
func TestTidyGoesOnUpToTheEndOfTheClock(t *testing.T) {
	for ahead := range 60 {
		w := onceTooOften()
		w.Clock = impl.ClkMost - ahead
		for _, times := range []int{1, 3} {
			wantWorld(t, impl.WldTidy(w, times), tidyByHand(w, times), "ahead of the end", ahead, "times", times)
		}
	}
}
