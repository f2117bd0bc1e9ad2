package tests

import (
	"fmt"
	"maps"
	"testing"

	"loop.example/tuggers/impl"
)

// turn does something to a busy world, and to its acting hand.
type turn func(w *impl.WldWorld, h *impl.HndHand)

// stepCase is a busy world, what is otherwise in it, and what a step of its acting hand does there, but for the clock.
type stepCase struct {
	pc    int
	op    impl.OpOp
	ahead turn
	then  turn
}

func (c stepCase) world() impl.WldWorld {
	w := busyWorld(c.pc, c.op)
	c.ahead(&w, &w.Hands[acting])
	return w
}

// behind is the world as it should be behind the step: all that the case does not name stays.
func (c stepCase) behind() impl.WldWorld {
	w := c.world()
	w.Clock++
	c.then(&w, &w.Hands[acting])
	return w
}

// cases are by their names.
type cases map[string]stepCase

func (all cases) add(pc int, o impl.OpOp, name string, ahead turn, then ...turn) {
	full := fmt.Sprint("at ", pc, ", asked ", o, ": ", name)
	if _, twice := all[full]; twice {
		panic("two cases of one name: " + full)
	}
	all[full] = stepCase{pc: pc, op: o, ahead: ahead, then: and(then...)}
}

// and is one thing behind the other.
func and(turns ...turn) turn {
	return func(w *impl.WldWorld, h *impl.HndHand) {
		for _, do := range turns {
			do(w, h)
		}
	}
}

// asIs turns nothing.
func asIs(*impl.WldWorld, *impl.HndHand) {}

func to(pc int) turn {
	return func(_ *impl.WldWorld, h *impl.HndHand) { h.Pc = pc }
}

func becomesSo(res impl.ResRes) turn {
	return func(_ *impl.WldWorld, h *impl.HndHand) { h.Res, h.Point, h.Done = res, now, true }
}

// becomesSoAsRes is of who has its answer already.
func becomesSoAsRes(_ *impl.WldWorld, h *impl.HndHand) {
	h.Point, h.Done = now, true
}

// tells sets an answer, and nothing else.
func tells(res impl.ResRes) turn {
	return func(_ *impl.WldWorld, h *impl.HndHand) { h.Res = res }
}

func done(_ *impl.WldWorld, h *impl.HndHand) { h.Done = true }

func pointIs(time int) turn {
	return func(_ *impl.WldWorld, h *impl.HndHand) { h.Point = time }
}

func predIs(at int) turn {
	return func(_ *impl.WldWorld, h *impl.HndHand) { h.Pred = ref(at) }
}

func currIs(at int) turn {
	return func(_ *impl.WldWorld, h *impl.HndHand) { h.Curr = ref(at) }
}

func ownIs(at int) turn {
	return func(_ *impl.WldWorld, h *impl.HndHand) { h.Own = ref(at) }
}

func oldIs(at int) turn {
	return func(_ *impl.WldWorld, h *impl.HndHand) { h.Old = ref(at) }
}

func succIs(word int) turn {
	return func(_ *impl.WldWorld, h *impl.HndHand) { h.Succ = word }
}

func seenIs(epoch int) turn {
	return func(_ *impl.WldWorld, h *impl.HndHand) { h.Seen = epoch }
}

func scanIs(k int) turn {
	return func(_ *impl.WldWorld, h *impl.HndHand) { h.Scan = k }
}

func pinIs(k, pin int) turn {
	return func(w *impl.WldWorld, _ *impl.HndHand) { w.Pool.Pins[k] = pin }
}

func epochIs(epoch int) turn {
	return func(w *impl.WldWorld, _ *impl.HndHand) { w.Pool.Epoch = epoch }
}

// takenIs is what a hand took out, of places and epochs that stand in turn.
func takenIs(k int, placesAndEpochs ...int) turn {
	return func(w *impl.WldWorld, _ *impl.HndHand) { w.Pool.Limbo[k] = olds(placesAndEpochs...) }
}

func wordIs(at, word int) turn {
	return func(w *impl.WldWorld, _ *impl.HndHand) { w.Arena.Nodes[at].Word = word }
}

// swapped is a word that was turned, and counted.
func swapped(at, word int) turn {
	return func(w *impl.WldWorld, _ *impl.HndHand) {
		w.Arena.Nodes[at].Word = word
		w.Arena.Nodes[at].Ver++
	}
}

func keyIs(at, key int) turn {
	return func(w *impl.WldWorld, _ *impl.HndHand) { w.Arena.Nodes[at].Key = key }
}

// free is a place in use no more, with nothing but its Gen.
func free(at int) turn {
	return func(w *impl.WldWorld, _ *impl.HndHand) { w.Arena.Nodes[at] = impl.ArnNode{Gen: ref(at).Gen} }
}

func topIs(at int) turn {
	return func(w *impl.WldWorld, _ *impl.HndHand) { w.Arena.Top = at }
}

func firstIs(at int) turn {
	return func(w *impl.WldWorld, _ *impl.HndHand) { w.Arena.First = at }
}

func lastIs(at int) turn {
	return func(w *impl.WldWorld, _ *impl.HndHand) { w.Arena.Last = at }
}

// noKeys lets the map be empty.
func noKeys(w *impl.WldWorld, _ *impl.HndHand) { w.Arena.Nodes[0].Word = 0 }

// idle lets another hand be idle.
func idle(k int) turn {
	return func(w *impl.WldWorld, _ *impl.HndHand) {
		w.Hands[k] = impl.HndHand{}
		w.Pool.Pins[k] = 0
	}
}

// stepCases are those of all rows of the table of steps.
func stepCases() cases {
	all := cases{}
	for _, some := range []cases{epochCases(), clearCases(), goCases(), foundCases(), turnCases(), stackCases(), queueCases(), frontCases(), countCases()} {
		maps.Copy(all, some)
	}
	return all
}

// checkSteps does each step, and holds the whole world behind it against that which should be.
func checkSteps(t *testing.T, all cases) {
	t.Helper()
	for name, c := range all {
		w := c.world()
		wantWorldOk(t, w, true, name, "ahead of the step")
		wantWorld(t, impl.WldStep(w, acting), c.behind(), name)
		wantWorld(t, w, c.world(), name, "the argument")
	}
}
