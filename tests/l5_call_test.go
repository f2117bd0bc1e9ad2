package tests

import (
	"math"
	"testing"

	"loop.example/tuggers/impl"
)

// noHands are numbers of hands that there are not.
func noHands() []int {
	return []int{math.MinInt, -1, impl.PolHands, impl.PolHands + 1, math.MaxInt}
}

// wrongWorlds are not ok, each for another reason.
func wrongWorlds() map[string]impl.WldWorld {
	turned := func(how func(*impl.WldWorld)) impl.WldWorld {
		return turnedWorld(busyWorld(impl.PcKey, getOp), how)
	}
	return map[string]impl.WldWorld{
		"nothing":          {},
		"no places":        turned(func(w *impl.WldWorld) { w.Arena.Nodes = nil }),
		"places":           turned(func(w *impl.WldWorld) { w.Arena.Nodes[2].Key = 10 }),
		"the pool":         turned(func(w *impl.WldWorld) { w.Pool.Pins[2] = -1 }),
		"no pool":          turned(func(w *impl.WldWorld) { w.Pool = impl.PolPool{} }),
		"no hands":         turned(func(w *impl.WldWorld) { w.Hands = nil }),
		"a hand too few":   turned(func(w *impl.WldWorld) { w.Hands = w.Hands[:2] }),
		"a hand too many":  turned(func(w *impl.WldWorld) { w.Hands = append(w.Hands, impl.HndHand{}) }),
		"the clock below":  turned(func(w *impl.WldWorld) { w.Clock = -1 }),
		"the clock above":  turned(func(w *impl.WldWorld) { w.Clock = impl.ClkMost + 1 }),
		"the clock, idle":  {Arena: impl.ArnNew(), Pool: impl.PolNew(), Hands: make([]impl.HndHand, 3), Clock: -1},
		"what was taken":   turned(func(w *impl.WldWorld) { w.Arena.Nodes[7] = impl.ArnNode{} }),
		"an answer":        turned(func(w *impl.WldWorld) { w.Log[1].Res = nothing }),
		"the first hand":   turned(func(w *impl.WldWorld) { w.Hands[0].Pred.Gen++ }),
		"the hand itself":  turned(func(w *impl.WldWorld) { w.Hands[acting].Succ = 1 }),
		"the last hand":    turned(func(w *impl.WldWorld) { w.Hands[2].Pc = 41 }),
		"another one idle": turned(func(w *impl.WldWorld) { w.Hands[2].Pc = impl.PcIdle }),
	}
}

// idleWorld is a busy world of which all hands are idle.
func idleWorld() impl.WldWorld {
	return turnedWorld(busyWorld(impl.PcIdle, getOp), func(w *impl.WldWorld) {
		w.Hands, w.Pool.Pins = make([]impl.HndHand, impl.PolHands), []int{0, 0, 0}
	})
}

// P26

func TestCallTurnsTheHandAlone(t *testing.T) {
	for _, clock := range []int{clockThen, impl.ClkMost - 1, impl.ClkMost} {
		for k := range impl.PolHands {
			for _, o := range ops() {
				w := idleWorld()
				w.Clock = clock
				want := cloneWorld(w)
				want.Hands[k] = impl.HndHand{Pc: impl.PcEpoch, Op: o, Begin: clock}
				wantWorld(t, impl.WldCall(w, k, o), want, k, o)
				wantWorldOk(t, want, true, k, o)
			}
		}
	}
}

func TestCallOfANewWorld(t *testing.T) {
	for k := range impl.PolHands {
		want := impl.WldNew()
		want.Hands[k] = impl.HndHand{Pc: impl.PcEpoch, Op: popOp}
		wantWorld(t, impl.WldCall(impl.WldNew(), k, popOp), want, k)
	}
}

// Others may be anywhere, and stay there.
func TestCallBesideOthers(t *testing.T) {
	for _, pc := range everyPc() {
		for _, k := range []int{0, 2} {
			w := busyWorld(pc, delOp)
			idle(k)(&w, nil)
			want := cloneWorld(w)
			want.Hands[k] = impl.HndBegin(impl.HndHand{}, putOp, clockThen)
			wantWorld(t, impl.WldCall(w, k, putOp), want, pc, k)
		}
	}
}

func TestCallIsOfHndBegin(t *testing.T) {
	for _, o := range append(ops(), wrongOps()...) {
		for _, h := range []impl.HndHand{{}, busyHandAt(impl.PcEpoch, getOp), busyHandAt(impl.PcPin, putOp)} {
			w := idleWorld()
			w.Hands[acting] = h
			want := cloneWorld(w)
			want.Hands[acting] = impl.HndBegin(h, o, clockThen)
			wantWorld(t, impl.WldCall(w, acting, o), want, h, o)
		}
	}
}

// P77

func TestCallOfABusyHand(t *testing.T) {
	eachBusyWorld(func(pc int, w impl.WldWorld) {
		for k := range impl.PolHands {
			for _, o := range oneOfEachKind() {
				wantWorld(t, impl.WldCall(w, k, o), w, pc, k, o)
			}
		}
	})
}

func TestCallOfAHandThatWasJustAsked(t *testing.T) {
	for _, first := range oneOfEachKind() {
		w := impl.WldCall(impl.WldNew(), 2, first)
		for _, second := range oneOfEachKind() {
			wantWorld(t, impl.WldCall(w, 2, second), w, first, second)
		}
	}
}

func TestCallOfWhatMayNotBeAsked(t *testing.T) {
	for _, o := range wrongOps() {
		for k := range impl.PolHands {
			wantWorld(t, impl.WldCall(idleWorld(), k, o), idleWorld(), k, o)
		}
	}
}

func TestCallOfNoSuchHand(t *testing.T) {
	for _, k := range noHands() {
		for _, o := range []impl.OpOp{popOp, putOp, {}} {
			wantWorld(t, impl.WldCall(idleWorld(), k, o), idleWorld(), k, o)
			wantWorld(t, impl.WldCall(impl.WldNew(), k, o), impl.WldNew(), k, o)
		}
	}
}

func TestCallOfAWorldThatIsNotOk(t *testing.T) {
	for name, w := range wrongWorlds() {
		for k := -1; k <= impl.PolHands; k++ {
			for _, o := range []impl.OpOp{popOp, {}} {
				wantWorld(t, impl.WldCall(w, k, o), impl.WldWorld{}, name, k, o)
			}
		}
	}
}
