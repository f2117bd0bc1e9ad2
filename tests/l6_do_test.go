package tests

import (
	"math"
	"testing"

	"loop.example/tuggers/impl"
)

func TestBoundsOfRuns(t *testing.T) {
	if impl.EvMaxRun != 2000 || impl.WorkMost != 500 {
		t.Error(impl.EvMaxRun, impl.WorkMost)
	}
}

// WldDo: a step, if Op's Kind is 0, and else what is asked.

func TestDoIsAStepOrACall(t *testing.T) {
	for _, pc := range everyPc() {
		for _, other := range []int{0, acting, 2} {
			w := busyWorld(pc, delOp)
			idle(other)(&w, nil)
			for k := range impl.PolHands {
				wantWorld(t, impl.WldDo(w, stepOf(k)), impl.WldStep(w, k), "a step", pc, k)
				for _, o := range oneOfEachKind() {
					wantWorld(t, impl.WldDo(w, callOf(k, o)), impl.WldCall(w, k, o), "asked", o, pc, k)
				}
			}
		}
	}
}

func TestDoTurnsSomething(t *testing.T) {
	w := impl.WldDo(impl.WldNew(), callOf(2, putOp))
	if w.Hands[2] != impl.HndBegin(impl.HndHand{}, putOp, 0) {
		t.Fatalf("hand 2 was not asked: %+v", w)
	}
	w = impl.WldDo(w, stepOf(2))
	if w.Clock != 1 || w.Hands[2].Pc != impl.PcPin {
		t.Fatalf("hand 2 did no step: %+v", w)
	}
}

// Just the Kind says what it is, whatever else there is.
func TestDoOfAStepWithMore(t *testing.T) {
	w := busyWorld(impl.PcKey, getOp)
	for _, o := range []impl.OpOp{op(0, 5), op(0, 0, 5), op(0, 99, 999), op(0, -1, -1), op(0, math.MinInt, math.MaxInt)} {
		for k := range impl.PolHands {
			wantWorld(t, impl.WldDo(w, callOf(k, o)), impl.WldStep(w, k), o, k)
		}
	}
}

func TestDoOfWhatMayNotBeAsked(t *testing.T) {
	for _, o := range wrongOps() {
		if o.Kind == 0 {
			continue
		}
		for k := range impl.PolHands {
			wantWorld(t, impl.WldDo(idleWorld(), callOf(k, o)), idleWorld(), o, k)
		}
		w := busyWorld(impl.PcKey, getOp)
		wantWorld(t, impl.WldDo(w, callOf(acting, o)), w, "busy", o)
	}
}

func TestDoOfNoSuchHand(t *testing.T) {
	for _, k := range noHands() {
		for _, w := range []impl.WldWorld{impl.WldNew(), idleWorld(), busyWorld(impl.PcKey, getOp)} {
			for _, o := range []impl.OpOp{{}, popOp, putOp, op(13)} {
				wantWorld(t, impl.WldDo(w, callOf(k, o)), w, k, o)
			}
		}
	}
}

func TestDoOfWhoIsIdle(t *testing.T) {
	for k := range impl.PolHands {
		wantWorld(t, impl.WldDo(idleWorld(), stepOf(k)), idleWorld(), k)
	}
}

func TestDoAtTheEndOfTheClock(t *testing.T) {
	w := busyWorld(impl.PcKey, getOp)
	w.Clock = impl.ClkMost
	wantWorld(t, impl.WldDo(w, stepOf(acting)), w, "a step")
	idle(2)(&w, nil)
	wantWorld(t, impl.WldDo(w, callOf(2, popOp)), impl.WldCall(w, 2, popOp), "asked")
}

func TestDoOfAWorldThatIsNotOk(t *testing.T) {
	for name, w := range wrongWorlds() {
		for k := -1; k <= impl.PolHands; k++ {
			for _, o := range []impl.OpOp{{}, popOp, op(13)} {
				wantWorld(t, impl.WldDo(w, callOf(k, o)), impl.WldWorld{}, name, k, o)
			}
		}
	}
}
