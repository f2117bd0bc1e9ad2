package tests

import (
	"testing"

	"loop.example/tuggers/impl"
)

// turnedThings is how many of places, pins, the epoch, the stack's top, and the queue's first and last one are not as they were.
func turnedThings(was, is impl.WldWorld) int {
	count := 0
	differ := func(differs bool) {
		if differs {
			count++
		}
	}
	for at := range was.Arena.Nodes {
		differ(was.Arena.Nodes[at] != is.Arena.Nodes[at])
	}
	for k := range was.Pool.Pins {
		differ(was.Pool.Pins[k] != is.Pool.Pins[k])
	}
	differ(was.Pool.Epoch != is.Pool.Epoch)
	differ(was.Arena.Top != is.Arena.Top)
	differ(was.Arena.First != is.Arena.First)
	differ(was.Arena.Last != is.Arena.Last)
	return count
}

// wantOneStep is P25 of a step of a hand that is not idle.
func wantOneStep(t *testing.T, was, is impl.WldWorld, k int, of ...any) {
	t.Helper()
	if is.Clock != was.Clock+1 || len(is.Hands) != impl.PolHands {
		t.Fatalf("of %v: behind a step the clock is %d, ahead of it %d", of, is.Clock, was.Clock)
	}
	if count := turnedThings(was, is); count > 1 {
		t.Errorf("of %v: a step turned %d things", of, count)
	}
	for other := range impl.PolHands {
		if other != k && (is.Hands[other] != was.Hands[other] || is.Pool.Pins[other] != was.Pool.Pins[other]) {
			t.Errorf("of %v: a step of hand %d turned hand %d, or its pin", of, k, other)
		}
	}
}

// P25

func TestOneStepTurnsOneThing(t *testing.T) {
	for name, c := range stepCases() {
		w := c.world()
		wantOneStep(t, w, impl.WldStep(w, acting), acting, name)
	}
	eachBusyWorld(func(pc int, w impl.WldWorld) {
		for k := range impl.PolHands {
			wantOneStep(t, w, impl.WldStep(w, k), k, pc, w.Hands[k].Op)
		}
	})
}

// Each hand has steps of its own, by its own pin, and its own list of what it took out.
func TestStepsOfEachHand(t *testing.T) {
	for name, c := range stepCases() {
		for k := range impl.PolHands {
			w, want := swappedHands(c.world(), k), swappedHands(c.behind(), k)
			if c.pc == impl.PcScan || len(want.Log) > len(w.Log) {
				continue
			}
			wantWorld(t, impl.WldStep(w, k), want, name, "of hand", k)
		}
	}
}

// swappedHands lets another hand of a busy world be the acting one.
func swappedHands(w impl.WldWorld, k int) impl.WldWorld {
	w = cloneWorld(w)
	swap := func(one, other int) {
		w.Hands[one], w.Hands[other] = w.Hands[other], w.Hands[one]
		w.Pool.Pins[one], w.Pool.Pins[other] = w.Pool.Pins[other], w.Pool.Pins[one]
		w.Pool.Limbo[one], w.Pool.Limbo[other] = w.Pool.Limbo[other], w.Pool.Limbo[one]
	}
	swap(acting, k)
	return w
}

// Who answers is noted by its own number.
func TestAnswerOfEachHand(t *testing.T) {
	for k := range impl.PolHands {
		w := alone(t, impl.WldNew(), k, pushOp)
		wantAnswer(t, w, k, pushOp, yes(0))
	}
}

// Who scans looks at the pins of all hands, by their numbers.
func TestScanOfEachHand(t *testing.T) {
	for k := range impl.PolHands {
		for other := range impl.PolHands {
			if other == k {
				continue
			}
			w := goTill(t, ask(t, impl.WldNew(), other, getOp), other, impl.PcHead)
			w.Pool.Epoch = 1
			w = goTill(t, ask(t, w, k, clearOp), k, impl.PcLook)
			if w.Hands[k].Scan != other+1 || w.Pool.Epoch != 1 {
				t.Errorf("hand %d came by the pin of hand %d: %v", k, other, w.Hands[k])
			}
		}
	}
}

func TestIdleHandsDoNoStep(t *testing.T) {
	for k := range impl.PolHands {
		wantWorld(t, impl.WldStep(impl.WldNew(), k), impl.WldNew(), "new", k)
		wantWorld(t, impl.WldStep(idleWorld(), k), idleWorld(), "idle", k)
		w := busyWorld(impl.PcKey, getOp)
		idle(k)(&w, nil)
		wantWorld(t, impl.WldStep(w, k), w, "beside others", k)
	}
}

func TestNoSuchHandDoesAStep(t *testing.T) {
	for _, k := range noHands() {
		eachBusyWorld(func(pc int, w impl.WldWorld) {
			wantWorld(t, impl.WldStep(w, k), w, pc, k)
		})
	}
}

func TestNoStepAtTheEndOfTheClock(t *testing.T) {
	for name, c := range stepCases() {
		w := c.world()
		w.Clock = impl.ClkMost
		wantWorld(t, impl.WldStep(w, acting), w, name)
	}
}

func TestLastStepOfTheClock(t *testing.T) {
	eachBusyWorld(func(pc int, w impl.WldWorld) {
		w.Clock = impl.ClkMost - 1
		wantOneStep(t, w, impl.WldStep(w, acting), acting, pc)
	})
}

func TestStepOfAWorldThatIsNotOk(t *testing.T) {
	for name, w := range wrongWorlds() {
		for k := -1; k <= impl.PolHands; k++ {
			wantWorld(t, impl.WldStep(w, k), impl.WldWorld{}, name, k)
		}
	}
}

// chance is a row of numbers that looks like chance, and is the same each time.
type chance uint64

func (c *chance) below(most int) int {
	*c = *c*6364136223846793005 + 1442695040888963407
	return int(uint64(*c)>>33) % most
}

// anyOp is something that may be asked, of few keys, so that hands come into each other's way.
func (c *chance) anyOp() impl.OpOp {
	o := oneOfEachKind()[c.below(len(oneOfEachKind()))]
	switch o.Kind {
	case impl.OpGet, impl.OpDel, impl.OpNext, impl.OpCount:
		o.Key = c.below(4)
	case impl.OpPut:
		o.Key, o.Val = c.below(4), c.below(1000)
	case impl.OpPush, impl.OpEnter:
		o.Val = c.below(1000)
	}
	return o
}

// turnOf asks a hand something, if it is idle, or lets it do a step; and holds P25 and P26 of that.
func (c *chance) turnOf(t *testing.T, w impl.WldWorld, k int, of ...any) impl.WldWorld {
	t.Helper()
	if w.Hands[k].Pc != impl.PcIdle {
		is := impl.WldStep(w, k)
		wantOneStep(t, w, is, k, of)
		return is
	}
	o := c.anyOp()
	wantWorld(t, impl.WldStep(w, k), w, of, "an idle hand")
	want := cloneWorld(w)
	want.Hands[k] = impl.HndBegin(w.Hands[k], o, w.Clock)
	is := impl.WldCall(w, k, o)
	wantWorld(t, is, want, of, "asked", o)
	return is
}

func TestStepsByWhateverTurns(t *testing.T) {
	for seed := range 60 {
		c := chance(seed)
		w := impl.WldNew()
		for n := range 400 {
			w = c.turnOf(t, w, c.below(impl.PolHands), seed, n)
			if !impl.WldOk(w) {
				t.Fatalf("turns %d: the world is not ok behind %d", seed, n)
			}
		}
	}
}
