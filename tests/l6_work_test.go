package tests

import (
	"math"
	"testing"

	"loop.example/tuggers/impl"
)

func wantWork(t *testing.T, w impl.WldWorld, k, most int, want impl.WldWorld, wantSteps int, of ...any) {
	t.Helper()
	got, steps := impl.WldWork(w, k, most)
	if steps != wantSteps {
		t.Errorf("hand %d of at most %d steps did %d, want %d, of %v", k, most, steps, wantSteps, of)
	}
	wantWorld(t, got, want, of, "hand", k, "at most", most)
}

// P33

func TestWorkIsSteps(t *testing.T) {
	eachWorld(t, 97, func(n int, w impl.WldWorld) {
		for k := range impl.PolHands {
			for _, most := range []int{1, 2, 5, 30, 499, 500} {
				want, steps := workByHand(w, k, most)
				wantWork(t, w, k, most, want, steps, "run", n)
			}
		}
	})
}

// It stops where the hand is idle, and not ahead of that.
func TestWorkEndsWhereTheHandIsIdle(t *testing.T) {
	w := ask(t, impl.WldNew(), 1, op(impl.OpPut, 3, 7))
	for most := range 13 {
		got, steps := impl.WldWork(w, 1, most)
		if steps != min(most, 10) || got.Clock != steps || (got.Hands[1].Pc == impl.PcIdle) != (most >= 10) {
			t.Errorf("of at most %d steps it did %d, and is at %d", most, steps, got.Hands[1].Pc)
		}
	}
	got, steps := impl.WldWork(w, 1, 500)
	wantThere(t, got, entries(3, 7), nil, nil)
	wantAnswer(t, got, 1, op(impl.OpPut, 3, 7), yes(0))
	if steps != 10 {
		t.Errorf("it did %d steps", steps)
	}
}

func TestWorkOfBusyWorlds(t *testing.T) {
	eachBusyWorld(func(pc int, w impl.WldWorld) {
		for k := range impl.PolHands {
			want, steps := workByHand(w, k, 3)
			wantWork(t, w, k, 3, want, steps, pc)
		}
	})
}

// Others stand still, wherever they are.
func TestWorkOfOneHandAlone(t *testing.T) {
	eachWorld(t, 131, func(n int, w impl.WldWorld) {
		for k := range impl.PolHands {
			got, _ := impl.WldWork(w, k, 500)
			for other := range impl.PolHands {
				if other != k && (got.Hands[other] != w.Hands[other] || got.Pool.Pins[other] != w.Pool.Pins[other]) {
					t.Errorf("run %d: while hand %d went on hand %d turned", n, k, other)
				}
			}
		}
	})
}

func TestWorkOfWhoIsIdle(t *testing.T) {
	for k := range impl.PolHands {
		for _, most := range []int{-1, 0, 1, 499, 500} {
			wantWork(t, impl.WldNew(), k, most, impl.WldNew(), 0, "new")
			wantWork(t, idleWorld(), k, most, idleWorld(), 0, "idle")
			w := busyWorld(impl.PcKey, getOp)
			idle(k)(&w, nil)
			wantWork(t, w, k, most, w, 0, "beside others")
		}
	}
}

func TestWorkOfNoSteps(t *testing.T) {
	eachBusyWorld(func(pc int, w impl.WldWorld) {
		for _, most := range []int{0, -1, -500, -501, math.MinInt} {
			wantWork(t, w, acting, most, w, 0, pc)
		}
	})
}

func TestWorkOfTooManySteps(t *testing.T) {
	for _, most := range []int{501, 502, 1000, math.MaxInt} {
		for k := -1; k <= impl.PolHands; k++ {
			for _, w := range []impl.WldWorld{impl.WldNew(), idleWorld(), busyWorld(impl.PcKey, getOp)} {
				wantWork(t, w, k, most, impl.WldWorld{}, 0)
			}
		}
	}
}

func TestWorkOfNoSuchHand(t *testing.T) {
	for _, k := range noHands() {
		for _, most := range []int{-1, 0, 1, 500} {
			for _, w := range []impl.WldWorld{impl.WldNew(), idleWorld(), busyWorld(impl.PcKey, getOp)} {
				wantWork(t, w, k, most, impl.WldWorld{}, 0)
			}
		}
	}
}

func TestWorkOfAWorldThatIsNotOk(t *testing.T) {
	for name, w := range wrongWorlds() {
		for k := -1; k <= impl.PolHands; k++ {
			for _, most := range []int{-1, 0, 1, 500, 501} {
				wantWork(t, w, k, most, impl.WldWorld{}, 0, name)
			}
		}
	}
}

func TestWorkUpToTheEndOfTheClock(t *testing.T) {
	for ahead := range 12 {
		w := ask(t, impl.WldNew(), 0, op(impl.OpPut, 3, 7))
		w.Clock = impl.ClkMost - ahead
		for _, most := range []int{1, 3, 500} {
			want, steps := workByHand(w, 0, most)
			wantWork(t, w, 0, most, want, steps, "ahead of the end", ahead)
			if steps != min(ahead, most, 10) {
				t.Errorf("%d ahead of the end, at most %d: %d steps", ahead, most, steps)
			}
		}
	}
}

// Of runs, rounds and tidyings alone it is said that they go on with a world that is not ok any more.
func TestWorkEndsWhereTheWorldIsNotOk(t *testing.T) {
	for name, ws := range brokenSteps() {
		for _, most := range []int{1, 2, 500} {
			wantWork(t, ws[0], acting, most, ws[1], 1, name)
		}
	}
}

// P27

func TestWhoIsAloneComesToItsEnd(t *testing.T) {
	longest := 0
	eachWorld(t, 7, func(n int, w impl.WldWorld) {
		for k, h := range w.Hands {
			if h.Pc == impl.PcIdle {
				continue
			}
			got, steps := impl.WldWork(w, k, 200)
			longest = max(longest, steps)
			if got.Hands[k].Pc != impl.PcIdle || steps < 1 || steps > 200 {
				t.Fatalf("run %d: hand %d, asked %v, is at %d behind %d steps alone", n, k, h.Op, got.Hands[k].Pc, steps)
			}
			if r := lastAnswer(got); r.Hand != k || r.Op != h.Op || len(got.Log) != len(w.Log)+1 {
				t.Fatalf("run %d: hand %d, asked %v, did not answer that, but %v", n, k, h.Op, r)
			}
		}
	})
	if longest < 20 {
		t.Errorf("no way was longer than %d steps", longest)
	}
}

// The longest ways go by eight places of the map, and, where others stand still at what they marked, by these too.
func TestWhoIsAloneInAFullMap(t *testing.T) {
	w := impl.WldNew()
	for key := range 8 {
		w = alone(t, w, 0, op(impl.OpPut, key*5, key))
	}
	half := goTill(t, ask(t, w, 0, op(impl.OpDel, 35)), 0, impl.PcCut)
	half = goTill(t, ask(t, half, 2, op(impl.OpDel, 0)), 2, impl.PcCut)
	for _, o := range append(oneOfEachKind(), op(impl.OpCount, 0), op(impl.OpNext, 99), op(impl.OpPut, 99, 1), op(impl.OpGet, 99)) {
		for _, full := range []impl.WldWorld{w, half} {
			got, steps := impl.WldWork(ask(t, full, 1, o), 1, 200)
			if got.Hands[1].Pc != impl.PcIdle || steps > 200 || lastAnswer(got).Op != o {
				t.Errorf("asked %v it is at %d behind %d steps", o, got.Hands[1].Pc, steps)
			}
		}
	}
}

// P4

// partOf are the hands of one of the seven ways in which just some go on.
func partOf(way int) []int {
	var hands []int
	for k := range impl.PolHands {
		if way>>k&1 == 1 {
			hands = append(hands, k)
		}
	}
	return hands
}

// stepsToAnAnswer lets some hands go on in turn until one of them answers, and counts their steps; others stand still.
func stepsToAnAnswer(w impl.WldWorld, hands []int) (int, bool) {
	steps := 0
	for steps <= 2000 {
		for _, k := range hands {
			if w.Hands[k].Pc == impl.PcIdle {
				continue
			}
			w = impl.WldDo(w, stepOf(k))
			steps++
			if w.Hands[k].Pc == impl.PcIdle {
				return steps, true
			}
		}
	}
	return steps, false
}

func TestOneOfThoseThatGoOnComesToItsEnd(t *testing.T) {
	met := 0
	eachWorld(t, 53, func(n int, w impl.WldWorld) {
		for way := 1; way < 8; way++ {
			hands := partOf(way)
			busy := 0
			for _, k := range hands {
				if w.Hands[k].Pc != impl.PcIdle {
					busy++
				}
			}
			if busy == 0 {
				continue
			}
			if steps, ended := stepsToAnAnswer(w, hands); !ended || steps > 2000 {
				t.Fatalf("run %d: of hands %v none answers within %d steps, of %+v", n, hands, steps, w)
			}
			if busy > 1 {
				met++
			}
		}
	})
	if met == 0 {
		t.Error("no two hands went on in turn")
	}
}

// All hands are asked the same, and are at the same step, again and again.
func TestHandsInStep(t *testing.T) {
	for _, o := range oneOfEachKind() {
		w := alone(t, impl.WldNew(), 0, op(impl.OpPut, 20, 1), pushOp, enterOp)
		for k := range impl.PolHands {
			w = ask(t, w, k, o)
		}
		for way := 1; way < 8; way++ {
			if steps, ended := stepsToAnAnswer(w, partOf(way)); !ended || steps > 2000 {
				t.Errorf("asked %v none of %v answers within %d steps", o, partOf(way), steps)
			}
		}
	}
}
