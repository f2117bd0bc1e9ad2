package tests

import (
	"testing"

	"loop.example/tuggers/impl"
)

// touchedPcs are some things that may be asked in the world of three, each with where a hand then touches a place, but for the head.
func touchedPcs() map[impl.OpOp][]int {
	return map[impl.OpOp][]int{
		op(impl.OpGet, 20):    {impl.PcNext, impl.PcKey},
		op(impl.OpDel, 20):    {impl.PcMark, impl.PcCut},
		op(impl.OpPut, 30, 3): {impl.PcFill, impl.PcLink},
		popOp:                 {impl.PcBelow},
		pushOp:                {impl.PcFill, impl.PcAim},
		enterOp:               {impl.PcBehind, impl.PcJoin},
		leaveOp:               {impl.PcAfter, impl.PcValue},
		op(impl.OpCount, 0):   {impl.PcCount},
	}
}

// Whoever is about to touch a place, that place is in use no more, or was taken again; in whatever step of whoever else.
func TestWatchersOfWhatIsTouchedSpeak(t *testing.T) {
	var all []speaks
	for o, pcs := range touchedPcs() {
		for _, pc := range pcs {
			w := actingAt(t, three(t), o, pc)
			r := touched(w.Hands[acting])[pc]
			gone := func(w *impl.WldWorld) { w.Arena.Nodes[r.At].Used = false }
			again := func(w *impl.WldWorld) { w.Arena.Nodes[r.At].Gen++ }
			for name, look := range map[string]watcher{"P2": touchesWhatIsThere, "P2, by hand": touchesByHand} {
				all = append(all, speaks{name + ", in use no more", look, w, stepOf(0), gone})
				all = append(all, speaks{name + ", taken again", look, w, stepOf(0), again})
			}
		}
	}
	checkSpeaks(t, all)
}

// What was not there ahead of a step speaks, too, though nothing is broken behind it.
func TestWatcherOfWhatWasTouchedSpeaks(t *testing.T) {
	w := actingAt(t, three(t), op(impl.OpGet, 20), impl.PcKey)
	h := happening{was: w, event: stepOf(acting), is: impl.WldStep(w, acting)}
	if met, broken := touchesByHand(h); !met || broken != "" {
		t.Errorf("met: %v, told: %s", met, broken)
	}
	h.was = turnedWorld(w, func(w *impl.WldWorld) { w.Arena.Nodes[w.Hands[acting].Curr.At].Gen++ })
	if _, broken := touchesByHand(h); broken == "" {
		t.Errorf("nobody tells")
	}
}

func TestWatchersOfWhatIsLostSpeak(t *testing.T) {
	w := alone(t, three(t), 0, popOp)
	fill := actingAt(t, w, pushOp, impl.PcFill)
	retire := actingAt(t, w, delOp, impl.PcRetire)
	ways := map[string]struct {
		was impl.WldWorld
		how func(*impl.WldWorld)
	}{
		"taken, and nobody's":  {w, func(w *impl.WldWorld) { w.Arena.Nodes[6].Used = true }},
		"not in the map":       {w, func(w *impl.WldWorld) { w.Arena.Nodes[2].Word = 0 }},
		"not in the queue":     {w, func(w *impl.WldWorld) { w.Arena.First = 5 }},
		"taken out no more":    {w, func(w *impl.WldWorld) { w.Pool.Limbo[0] = nil }},
		"its own no more":      {fill, func(w *impl.WldWorld) { w.Hands[acting] = impl.HndHand{} }},
		"to be noted no more":  {retire, func(w *impl.WldWorld) { w.Hands[acting] = impl.HndHand{} }},
		"the last place there": {w, func(w *impl.WldWorld) { w.Arena.Nodes[9].Used = true }},
	}
	var all []speaks
	for name, way := range ways {
		all = append(all, speaks{"P3, " + name, noneIsLost, way.was, stepOf(2), way.how})
		all = append(all, speaks{"P3, by hand, " + name, onceByHand, way.was, stepOf(2), way.how})
	}
	checkSpeaks(t, all)
}

func TestWatchersOfWhatIsTwiceSpeak(t *testing.T) {
	w := alone(t, three(t), 0, popOp)
	fill := actingAt(t, w, pushOp, impl.PcFill)
	retire := actingAt(t, w, delOp, impl.PcRetire)
	ways := map[string]struct {
		was impl.WldWorld
		how func(*impl.WldWorld)
	}{
		"its own, and in the map":     {fill, func(w *impl.WldWorld) { w.Hands[acting].Own = impl.HndRef{At: 2, Gen: 1} }},
		"its own, and in the queue":   {fill, func(w *impl.WldWorld) { w.Hands[acting].Own = impl.HndRef{At: 1, Gen: 1} }},
		"its own, and taken out":      {fill, func(w *impl.WldWorld) { w.Hands[acting].Own = impl.HndRef{At: 4, Gen: 1} }},
		"its own, and another one's":  {fill, func(w *impl.WldWorld) { w.Hands[2] = w.Hands[acting]; w.Pool.Pins[2] = 1 }},
		"to be noted, and noted":      {retire, func(w *impl.WldWorld) { isTakenOutBy(0)(w, 3); w.Pool.Limbo[0][1].Epoch = 0 }},
		"to be noted, and in the map": {retire, func(w *impl.WldWorld) { w.Hands[acting].Old = impl.HndRef{At: 2, Gen: 1} }},
		"to be noted by two":          {retire, func(w *impl.WldWorld) { w.Hands[0] = w.Hands[acting]; w.Pool.Pins[0] = 1 }},
		"to be noted, and its own":    {retire, func(w *impl.WldWorld) { w.Hands[acting].Own = w.Hands[acting].Old }},
	}
	var all []speaks
	for name, way := range ways {
		all = append(all, speaks{"P3, " + name, noneIsTwice, way.was, stepOf(2), way.how})
		all = append(all, speaks{"P3, by hand, " + name, onceByHand, way.was, stepOf(2), way.how})
	}
	checkSpeaks(t, all)
}

// What a hand saw is taken out of all, and nobody has it.
func TestWatcherOfWhatIsSeenSpeaks(t *testing.T) {
	var all []speaks
	for _, o := range []impl.OpOp{op(impl.OpGet, 20), popOp, leaveOp, topOp, frontOp, op(impl.OpCount, 20)} {
		w := ask(t, three(t), acting, o)
		for w.Hands[acting].Pc != impl.PcIdle {
			w = impl.WldStep(w, acting)
			h := w.Hands[acting]
			if !isPlaceAt(h.Curr) || h.Done {
				continue
			}
			for _, end := range []int{1, 5} {
				if h.Curr.At == end {
					continue
				}
				all = append(all, speaks{"P57", seesWhatIsOrWas, w, stepOf(0), func(w *impl.WldWorld) {
					w.Arena.Nodes[0].Word, w.Arena.Top, w.Arena.First, w.Arena.Last = 0, 0, end, end
					w.Arena.Nodes[end].Word = 0
					w.Pool.Limbo = make([][]impl.PolOld, impl.PolHands)
				}})
			}
		}
	}
	checkSpeaks(t, all)
	if len(all) < 15 {
		t.Errorf("just %d", len(all))
	}
}

// What who took it out holds, or noted, is seen all the same.
func TestWatcherOfWhatIsSeenIsContent(t *testing.T) {
	w := actingAt(t, three(t), op(impl.OpGet, 20), impl.PcKey)
	w = goTill(t, impl.WldStep(w, acting), acting, impl.PcKey)
	for name, w := range map[string]impl.WldWorld{
		"to be noted": goTill(t, ask(t, w, 0, op(impl.OpDel, 20)), 0, impl.PcRetire),
		"noted":       alone(t, w, 0, op(impl.OpDel, 20)),
	} {
		met, broken := seesWhatIsOrWas(happening{was: w, event: stepOf(2), is: w})
		if !met || broken != "" {
			t.Errorf("%s: met: %v, told: %s", name, met, broken)
		}
	}
}
