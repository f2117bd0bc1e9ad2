package tests

import (
	"slices"
	"testing"

	"loop.example/tuggers/impl"
)

func wantLog(t *testing.T, w impl.WldWorld, want []impl.LogRec, of ...any) {
	t.Helper()
	if got := impl.LinLog(w); !slices.Equal(got, want) {
		t.Errorf("got %v, want %v, of %v", got, want, of)
	}
}

// doneAt are the answers of some hands of a world, as of its clock, by what they hold there.
func doneAt(w impl.WldWorld, hands ...int) []impl.LogRec {
	log := slices.Clone(w.Log)
	for _, k := range hands {
		h := w.Hands[k]
		log = append(log, impl.LogRec{Hand: k, Op: h.Op, Res: h.Res, Begin: h.Begin, Point: h.Point, End: w.Clock})
	}
	return log
}

// P38

func TestLogOfWhoIsDone(t *testing.T) {
	eachBusyWorld(func(pc int, w impl.WldWorld) {
		for set := range 8 {
			var hands []int
			for k := range impl.PolHands {
				w.Hands[k].Done = set>>k&1 == 1
				if w.Hands[k].Done {
					hands = append(hands, k)
				}
			}
			if pc == impl.PcEnd && !w.Hands[acting].Done {
				continue
			}
			wantLog(t, w, doneAt(w, hands...), pc, set)
		}
	})
}

// The clock is End, whatever else there is: the Point may lie ahead of Begin, or nothing be answered.
func TestLogTellsHandsAsTheyAre(t *testing.T) {
	w := busyWorld(impl.PcUnpin, putOp)
	w.Hands[acting].Done, w.Hands[acting].Begin, w.Hands[acting].Point = true, 40, 30
	w.Hands[acting].Res = nothing
	want := append(slices.Clone(w.Log), impl.LogRec{Hand: acting, Op: putOp, Begin: 40, Point: 30, End: clockThen})
	wantLog(t, w, want)
	w.Log = nil
	wantLog(t, w, want[2:], "nothing was answered")
}

func TestLogOfWhoIsIdle(t *testing.T) {
	wantLog(t, impl.WldNew(), nil, "new")
	w := idleWorld()
	wantLog(t, w, w.Log, "idle")
	busy := busyWorld(impl.PcKey, getOp)
	wantLog(t, busy, busy.Log, "nobody is done")
}

func TestLogOfAFullLog(t *testing.T) {
	w := busyWorld(impl.PcUnpin, putOp)
	w.Log = slices.Repeat(w.Log, 200)
	for k := range w.Hands {
		w.Hands[k].Done = true
	}
	wantLog(t, w, doneAt(w, 0, 1, 2))
	if got := len(impl.LinLog(w)); got != 403 {
		t.Errorf("there are %d", got)
	}
}

func TestLogOfAWorldThatIsNotOk(t *testing.T) {
	for name, w := range wrongWorlds() {
		for k := range w.Hands {
			w.Hands[k].Done = true
		}
		wantLog(t, w, nil, name)
	}
}

// P50

func TestWhatThereIsIsMapStackAndQueue(t *testing.T) {
	for name, a := range anyArenas() {
		want := stateOf(impl.ArnMap(a), impl.ArnStack(a), impl.ArnQueue(a))
		wantState(t, impl.LinOf(a), want, name)
	}
	wantState(t, impl.LinOf(mixed()), stateOf(entries(10, 400, 20, 200, 30, 700), []int{800, 100}, []int{500}), "mixed")
	wantState(t, impl.LinOf(marked(mixed(), 2)), stateOf(entries(10, 400, 30, 700), []int{800, 100}, []int{500}), "marked")
	wantState(t, impl.LinOf(impl.ArnNew()), impl.LinState{}, "new")
}

func TestWhatThereIsIsOk(t *testing.T) {
	for name, a := range anyArenas() {
		s := impl.LinOf(a)
		if !impl.MapOk(s.Map) || !impl.ListOk(s.Stack) || !impl.ListOk(s.Queue) {
			t.Errorf("%s: %v is not ok", name, s)
		}
		used := 0
		for _, n := range a.Nodes {
			if n.Used {
				used++
			}
		}
		if size := len(s.Map.Entries) + len(s.Stack) + len(s.Queue); used < size {
			t.Errorf("%s: %d are in use, and there are %d", name, used, size)
		}
		if !impl.ArnOk(a) && !sameState(s, impl.LinState{}) {
			t.Errorf("%s: places are not ok, and there is %v", name, s)
		}
	}
}

// P60

func wantLinOk(t *testing.T, w impl.WldWorld, want bool, of ...any) {
	t.Helper()
	if got := impl.LinOk(w); got != want {
		t.Errorf("got %v, want %v, of %v", got, want, of)
	}
}

// alike has answers of each kind, all things in map, stack and queue, and a hand each that has answered, is done, and goes on.
func alike(t *testing.T) impl.WldWorld {
	t.Helper()
	w := alone(t, three(t), 0, op(impl.OpPut, 5, 3), op(impl.OpPut, 5, 4), op(impl.OpGet, 10), op(impl.OpDel, 5), clearOp, popOp,
		op(impl.OpPush, 0, 6), op(impl.OpPush, 0, 8), op(impl.OpEnter, 0, 7), leaveOp, op(impl.OpNext, 3), op(impl.OpCount, 0), topOp, frontOp, clearOp, clearOp)
	w = goTill(t, ask(t, w, acting, op(impl.OpDel, 20)), acting, impl.PcCut)
	return goTill(t, ask(t, w, 2, op(impl.OpPush, 0, 4)), 2, impl.PcPush)
}

func TestAlike(t *testing.T) {
	w := alike(t)
	wantLinOk(t, w, true, "alike")
	wantState(t, impl.LinOf(w.Arena), stateOf(entries(10, 1), []int{8, 6}, []int{7}), "alike")
	wantLinOk(t, impl.WldNew(), true, "new")
	wantLinOk(t, three(t), true, "three")
}

// What is there, and what was answered, is nothing, and so alike: but the world is not ok.
func TestNotAlikeOfAWorldThatIsNotOk(t *testing.T) {
	wantLinOk(t, impl.WldWorld{}, false, "nothing")
	for name, how := range map[string]func(*impl.WldWorld){
		"the clock":          func(w *impl.WldWorld) { w.Clock = -1 },
		"no hands":           func(w *impl.WldWorld) { w.Hands = nil },
		"no pool":            func(w *impl.WldWorld) { w.Pool = impl.PolPool{} },
		"no places":          func(w *impl.WldWorld) { w.Arena = impl.ArnArena{} },
		"a pin":              func(w *impl.WldWorld) { w.Pool.Pins[0] = 2 },
		"who is idle is not": func(w *impl.WldWorld) { w.Hands[2].Mid = 1 },
		"places":             func(w *impl.WldWorld) { w.Arena.Last = 2 },
		"what was taken out": func(w *impl.WldWorld) { w.Pool.Limbo[0] = olds(5, 0) },
	} {
		wantLinOk(t, turnedWorld(impl.WldNew(), how), false, name)
	}
	for name, w := range wrongWorlds() {
		wantLinOk(t, w, false, name)
	}
	w := alike(t)
	w.Hands[2].Scan = 4
	wantLinOk(t, w, false, "a hand of an alike one")
}

func TestNotAlikeWhereTheLogIsFull(t *testing.T) {
	w := alike(t)
	size := len(w.Log)
	looks := rec(w.Clock, op(impl.OpGet, 98), no)
	for len(w.Log) < 399 {
		w.Log = append(w.Log, looks)
	}
	wantLinOk(t, w, true, "399 are noted")
	w.Log = append(w.Log, looks)
	wantWorldOk(t, w, true, "400 are noted")
	wantLinOk(t, w, false, "400 are noted")
	rest := turnedWorld(impl.WldNew(), func(w *impl.WldWorld) { w.Log = slices.Repeat([]impl.LogRec{rec(0, popOp, no)}, 400) })
	wantLinOk(t, rest, false, "400 are noted, and nothing is there")
	rest.Log = rest.Log[1:]
	wantLinOk(t, rest, true, "399 are noted, and nothing is there")
	// One that is done, and not noted yet, is not counted.
	w.Log = append(slices.Clone(w.Log[:size]), slices.Repeat([]impl.LogRec{looks}, 399-size)...)
	if len(impl.LinLog(w)) != 400 {
		t.Fatalf("there are %d", len(impl.LinLog(w)))
	}
	wantLinOk(t, w, true, "399 are noted, and one is done")
}

// All is alike but for when the one that is done was asked, or for when it became so.
func TestNotAlikeWhereTimesAreNotInOrder(t *testing.T) {
	at := impl.OpOp{Kind: impl.OpGet, Key: 98}
	for begin := 40; begin <= clockThen; begin++ {
		for point := 40; point <= clockThen; point++ {
			w := turnedWorld(impl.WldNew(), func(w *impl.WldWorld) {
				w.Clock = clockThen
				w.Pool.Pins[acting] = 1
				w.Hands[acting] = impl.HndHand{Pc: impl.PcUnpin, Op: at, Res: no, Done: true, Begin: begin, Point: point}
			})
			wantWorldOk(t, w, true, begin, point)
			wantLinOk(t, w, begin <= point, begin, point)
			w.Hands[acting].Done = false
			wantLinOk(t, w, true, begin, point, "not done")
		}
	}
	for k := range impl.PolHands {
		w := alike(t)
		w.Hands[k] = impl.HndHand{Pc: impl.PcEnd, Op: at, Res: no, Done: true, Begin: 3, Point: 2}
		w.Pool.Pins[k] = 0
		w.Hands[k].Point = 3
		wasOk := impl.LinOk(w)
		w.Hands[k].Point = 2
		wantLinOk(t, w, false, k)
		// The hand that marked something is the only one of which something is there.
		if wasOk != (k != acting) {
			t.Errorf("hand %d, at its end: %v", k, wasOk)
		}
	}
}

// turnedAnswers turn one thing that was answered, and leave all that was there.
func turnedAnswers(w impl.WldWorld, at int) map[string]impl.WldWorld {
	all := map[string]impl.WldWorld{}
	for _, res := range []impl.ResRes{no, full, yes(0), yes(w.Log[at].Res.Val + 1), yes(997)} {
		if res != w.Log[at].Res {
			all[string(rune('0'+res.Code))] = turnedWorld(w, func(w *impl.WldWorld) { w.Log[at].Res = res })
		}
	}
	return all
}

// A world is ok whatever was answered, but it is not alike, if that is not what one state answers.
func TestNotAlikeWhereAnAnswerIsAnotherOne(t *testing.T) {
	was := alike(t)
	for at, r := range was.Log {
		for name, w := range turnedAnswers(was, at) {
			wantWorldOk(t, w, true, r, name)
			// A put that was told that there is no room is left out: then it is what is there that is not alike.
			wantLinOk(t, w, w.Log[at].Res == full && r.Res == no && r.Op.Kind == impl.OpPut, r, name)
		}
	}
	for _, res := range []impl.ResRes{no, full, yes(0), yes(3)} {
		w := turnedWorld(was, func(w *impl.WldWorld) { w.Hands[acting].Res = res })
		wantWorldOk(t, w, true, res)
		wantLinOk(t, w, false, "of who is done", res)
	}
}

// What is left out, or stands twice, is not alike, if it turned something.
func TestNotAlikeWhereAnAnswerIsMissing(t *testing.T) {
	was := alike(t)
	for at, r := range was.Log {
		turns := !slices.Contains(lookKinds, r.Op.Kind) && r.Res != no
		w := turnedWorld(was, func(w *impl.WldWorld) { w.Log = slices.Delete(w.Log, at, at+1) })
		wantLinOk(t, w, !turns, r, "missing")
		w = turnedWorld(was, func(w *impl.WldWorld) { w.Log = slices.Insert(w.Log, at, r) })
		wantLinOk(t, w, !turns, r, "twice")
	}
	w := turnedWorld(was, func(w *impl.WldWorld) { w.Hands[acting].Done = false })
	wantWorldOk(t, w, true, "not done")
	wantLinOk(t, w, false, "not done")
}

// Where all that is asked is a row of pushes, each order of Points is another state.
func TestNotAlikeInAnotherOrder(t *testing.T) {
	w := alone(t, impl.WldNew(), 0, op(impl.OpEnter, 0, 1), op(impl.OpEnter, 0, 2), op(impl.OpPush, 0, 3))
	wantLinOk(t, w, true)
	for at := range w.Log {
		w.Log[at].Begin, w.Log[at].End = 0, w.Clock
	}
	wantLinOk(t, w, true, "each the whole time")
	w.Log[0].Point, w.Log[1].Point = w.Log[1].Point, w.Log[0].Point
	wantWorldOk(t, w, true, "the other way")
	wantLinOk(t, w, false, "the other way")
	w.Log[0], w.Log[1] = w.Log[1], w.Log[0]
	wantLinOk(t, w, false, "the other way, as noted")
	w.Log[0].Point, w.Log[1].Point = w.Log[1].Point, w.Log[0].Point
	wantLinOk(t, w, true, "noted the other way")
}

// What is there is not alike, if just one thing of it is another one.
func TestNotAlikeWhereWhatIsThereIsAnother(t *testing.T) {
	was := alike(t)
	chain, stacked, queued := impl.ArnChain(was.Arena), impl.ArnStacked(was.Arena), impl.ArnQueued(was.Arena)
	for name, how := range map[string]func(*impl.WldWorld){
		"a key":                 func(w *impl.WldWorld) { w.Arena.Nodes[chain[0]].Key = 11 },
		"a key's value":         func(w *impl.WldWorld) { w.Arena.Nodes[chain[0]].Val = 2 },
		"a mark":                func(w *impl.WldWorld) { w.Arena.Nodes[chain[0]].Word++ },
		"a mark less":           func(w *impl.WldWorld) { w.Arena.Nodes[chain[1]].Word-- },
		"the top's value":       func(w *impl.WldWorld) { w.Arena.Nodes[stacked[0]].Val = 7 },
		"another top":           func(w *impl.WldWorld) { w.Arena.Top = stacked[1] },
		"no top":                func(w *impl.WldWorld) { w.Arena.Top = 0 },
		"a value below the top": func(w *impl.WldWorld) { w.Arena.Nodes[stacked[1]].Val = 7 },
		"the stack is shorter":  func(w *impl.WldWorld) { w.Arena.Nodes[stacked[0]].Word = 0 },
		"the front's value":     func(w *impl.WldWorld) { w.Arena.Nodes[queued[1]].Val = 8 },
		"the queue is shorter":  func(w *impl.WldWorld) { w.Arena.First = queued[1] },
	} {
		w := turnedWorld(was, how)
		wantWorldOk(t, w, true, name)
		wantLinOk(t, w, false, name)
	}
	w := turnedWorld(was, func(w *impl.WldWorld) { w.Arena.Nodes[queued[0]].Val = 998 })
	wantLinOk(t, w, true, "what is ahead of the queue has no value")
	for _, only := range []impl.OpOp{op(impl.OpPut, 3, 4), pushOp, enterOp} {
		w := alone(t, impl.WldNew(), 0, only)
		wantLinOk(t, w, true, only)
		w.Log = nil
		wantLinOk(t, w, false, only, "is there, and nobody was told so")
	}
}
