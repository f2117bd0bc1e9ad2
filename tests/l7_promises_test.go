package tests

import (
	"slices"
	"testing"

	"loop.example/tuggers/impl"
)

// P1

func TestWorldsAreAlike(t *testing.T) { watchRuns(t, alwaysBy(isAlike)) }

func TestWorldsAreAlikeByHand(t *testing.T) { watchRuns(t, alwaysBy(alikeByHand)) }

// P51

func TestWhoTurnsOneThingTurnsNoOther(t *testing.T) { watchRuns(t, alwaysBy(turnsJustItsThing)) }

// P52

func TestThingsBecomeSoAtOneStep(t *testing.T) { watchRuns(t, alwaysBy(turnsAsItBecomesSo)) }

func TestThingsBecomeSoAsApplied(t *testing.T) { watchRuns(t, alwaysBy(appliesAsItBecomesSo)) }

// P76

func TestWhoIsToldNoTurnedNothing(t *testing.T) { watchRuns(t, alwaysBy(toldNoTurnsNothing)) }

// eachWay hands out worlds to which runs come, long ones among them, with hands anywhere, as long as there is room for more answers.
func eachWay(t *testing.T, every int, do func(n int, w impl.WldWorld)) {
	t.Helper()
	t.Parallel()
	eachWorld(t, every, do)
	for _, n := range []int{96, 105, 115, 124} {
		at := 0
		play(t, n, 4000, func(h happening) {
			if at++; at%(10*every) == 0 && len(h.is.Log) < 350 {
				do(n, h.is)
			}
		})
	}
}

// orderOfHands are the hands, in another order for each of six numbers.
func orderOfHands(n int) []int {
	return [][]int{{0, 1, 2}, {2, 1, 0}, {1, 0, 2}, {0, 2, 1}, {2, 0, 1}, {1, 2, 0}}[n%6]
}

// P64

func TestToGoOnInTurn(t *testing.T) {
	eachWay(t, 37, func(n int, w impl.WldWorld) {
		busy := 0
		for _, h := range w.Hands {
			if h.Pc != impl.PcIdle {
				busy++
			}
		}
		is := w
		for _, k := range orderOfHands(n) {
			is, _ = impl.WldWork(is, k, 500)
		}
		if !allIdle(is) || len(is.Log) != len(w.Log)+busy || !impl.LinOk(is) {
			t.Errorf("run %d: of %d there are %d answers behind %d, idle %v, alike %v", n, busy, len(is.Log), len(w.Log), allIdle(is), impl.LinOk(is))
		}
	})
}

// eachEnd hands out worlds in which all hands have come to their end, in whatever order.
func eachEnd(t *testing.T, every int, do func(n int, w impl.WldWorld)) {
	t.Helper()
	eachWay(t, every, func(n int, w impl.WldWorld) {
		for _, k := range orderOfHands(n + w.Clock) {
			w, _ = impl.WldWork(w, k, 500)
		}
		do(n, w)
	})
}

// P5

func wantTidy(t *testing.T, was, is impl.WldWorld, of ...any) {
	t.Helper()
	held := map[int]bool{0: true}
	for _, at := range inAll(is.Arena) {
		held[at] = true
	}
	for at, node := range is.Arena.Nodes {
		if node.Used != held[at] {
			t.Errorf("of %v: place %d is in use: %v", of, at, node.Used)
		}
	}
	for _, at := range impl.ArnChain(is.Arena) {
		if is.Arena.Nodes[at].Word%2 == 1 {
			t.Errorf("of %v: place %d is marked", of, at)
		}
	}
	if out := impl.PolOut(is.Pool); len(out) > 0 {
		t.Errorf("of %v: %v were taken out", of, out)
	}
	wantState(t, plainThere(is.Arena), plainThere(was.Arena), of)
}

func TestNothingIsLeftBehind(t *testing.T) {
	out := 0
	eachEnd(t, 41, func(n int, w impl.WldWorld) {
		out += len(impl.PolOut(w.Pool))
		wantTidy(t, w, impl.WldTidy(w, 3), "run", n)
		is := w
		for range 3 {
			for _, k := range orderOfHands(n) {
				is = alone(t, is, k, clearOp)
			}
		}
		wantTidy(t, w, is, "run", n, "in another order")
	})
	if out < 100 {
		t.Errorf("just %d were left", out)
	}
}

// asksOfAll are things to ask in a world: of each kind, and of keys that are there and that are not.
func asksOfAll(w impl.WldWorld) []impl.OpOp {
	all := []impl.OpOp{clearOp, op(impl.OpPush, 0, 3), popOp, op(impl.OpEnter, 0, 4), leaveOp, topOp, frontOp}
	keys := []int{0, 7, impl.KeyMax}
	for _, e := range plainThere(w.Arena).Map.Entries {
		keys = append(keys, e.Key, min(e.Key+1, impl.KeyMax))
	}
	for _, kind := range mapKinds {
		for _, key := range keys {
			o := op(kind, key)
			if kind == impl.OpPut {
				o.Val = 5
			}
			all = append(all, o)
		}
	}
	return all
}

// P7

func TestOneBehindTheOtherAllIsAsAsked(t *testing.T) {
	noRoom := 0
	eachEnd(t, 89, func(n int, w impl.WldWorld) {
		was := plainThere(w.Arena)
		for at, o := range asksOfAll(w) {
			k := (n + at) % impl.PolHands
			is := alone(t, w, k, o)
			want, res := plainApply(was, o)
			if lastAnswer(is).Res == full {
				noRoom++
				want, res = was, full
				if free := impl.ArnFree(w.Arena); free != 0 || !slices.Contains(placeKinds, o.Kind) {
					t.Errorf("run %d: %v is told that there is no room, and %d are free", n, o, free)
				}
			}
			wantAnswer(t, is, k, o, res)
			wantState(t, plainThere(is.Arena), want, "run", n, o)
			linked, linRes := impl.LinApply(impl.LinOf(w.Arena), o)
			if lastAnswer(is).Res != full && (!sameState(impl.LinOf(is.Arena), linked) || lastAnswer(is).Res != linRes) {
				t.Errorf("run %d: %v leaves %v, and by LinApply %v %v", n, o, impl.LinOf(is.Arena), linked, linRes)
			}
		}
	})
	if noRoom == 0 {
		t.Errorf("nobody was told that there is no room")
	}
}

// P88

func TestWhoLooksAloneSeesWhatIsThere(t *testing.T) {
	eachEnd(t, 89, func(n int, w impl.WldWorld) {
		was := plainThere(w.Arena)
		for at, o := range asksOfAll(w) {
			if !slices.Contains([]int{impl.OpNext, impl.OpCount, impl.OpTop, impl.OpFront}, o.Kind) {
				continue
			}
			k := (n + at) % impl.PolHands
			is := alone(t, w, k, o)
			_, want := plainApply(was, o)
			wantAnswer(t, is, k, o, want)
			wantRes(t, lastAnswer(is).Res, looksByChapterOne(w, o), "run", n, o)
			wantArena(t, is.Arena, w.Arena, "run", n, o)
			wantState(t, plainThere(is.Arena), was, "run", n, o)
		}
	})
}

// looksByChapterOne is what MapCount, ListFirst and MapNext of what is there say.
func looksByChapterOne(w impl.WldWorld, o impl.OpOp) impl.ResRes {
	s := impl.LinOf(w.Arena)
	switch o.Kind {
	case impl.OpNext:
		return impl.MapNext(s.Map, o.Key)
	case impl.OpCount:
		return impl.MapCount(s.Map, o.Key)
	case impl.OpTop:
		return impl.ListFirst(s.Stack)
	}
	return impl.ListFirst(s.Queue)
}

// keysOf are the keys that are there.
func keysOf(w impl.WldWorld) map[int]bool {
	keys := map[int]bool{}
	for _, e := range plainThere(w.Arena).Map.Entries {
		keys[e.Key] = true
	}
	return keys
}

// walk is a hand that goes from key to key, while others turn them.
type walk struct {
	told   []int
	always map[int]bool
	ever   map[int]bool
}

func newWalk(w impl.WldWorld) *walk {
	return &walk{always: keysOf(w), ever: keysOf(w)}
}

func (k *walk) see(w impl.WldWorld) {
	keys := keysOf(w)
	for key := range k.always {
		if !keys[key] {
			delete(k.always, key)
		}
	}
	for key := range keys {
		k.ever[key] = true
	}
}

// broken is how P8 does not hold of it, behind its end; empty, if it does.
func (k *walk) broken() string {
	is := map[int]bool{}
	for at, key := range k.told {
		is[key] = true
		if at > 0 && key <= k.told[at-1] {
			_, broken := breaks("it is told", k.told)
			return broken
		}
		if !k.ever[key] {
			_, broken := breaks("it is told", key, "that never was there")
			return broken
		}
	}
	for key := range k.always {
		if !is[key] {
			_, broken := breaks("it missed", key, "and is told", k.told)
			return broken
		}
	}
	return ""
}

// from is the key that is asked next; false, if it is told no, or has come to the last one.
func (k *walk) from(res impl.ResRes) (int, bool) {
	if res.Code != impl.ResYes {
		return 0, false
	}
	k.told = append(k.told, res.Val)
	return res.Val + 1, res.Val < impl.KeyMax
}

// P8

func TestWhoGoesFromKeyToKeyMissesNone(t *testing.T) {
	size := 0
	eachEnd(t, 23, func(n int, w impl.WldWorld) {
		p := newPlayer(n + 8)
		p.mix = mix{"the map", []int{2, 2, 2, 3, 3, 3, 9, 1, 4}, 9}
		walk := newWalk(w)
		key, goes := 0, true
		for goes {
			w = ask(t, w, 0, op(impl.OpNext, key))
			for w.Hands[0].Pc != impl.PcIdle {
				if p.below(2) == 0 {
					w = impl.WldStep(w, 0)
				} else if w.Hands[1].Pc == impl.PcIdle {
					w = impl.WldCall(w, 1, p.asks())
				} else {
					w = impl.WldStep(w, 1)
				}
				walk.see(w)
			}
			key, goes = walk.from(lastOf(w, 0).Res)
		}
		size += len(walk.told)
		if broken := walk.broken(); broken != "" {
			t.Errorf("run %d: %s", n, broken)
		}
	})
	if size < 500 {
		t.Errorf("just %d keys were told", size)
	}
}

// lastOf is what a hand answered last.
func lastOf(w impl.WldWorld, k int) impl.LogRec {
	for at := len(w.Log) - 1; at >= 0; at-- {
		if w.Log[at].Hand == k {
			return w.Log[at]
		}
	}
	return impl.LogRec{}
}
