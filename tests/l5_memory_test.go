package tests

import (
	"slices"
	"testing"

	"loop.example/tuggers/impl"
)

var (
	junkHand, otherHand = impl.HndHand{Pc: 77, Trace: "junk"}, impl.HndHand{Pc: 66, Trace: "other"}
	junkRec, otherRec   = impl.LogRec{Hand: 77}, impl.LogRec{Hand: 66}
)

// roomyWorld has junk in spare room behind each of its lists.
func roomyWorld(w impl.WldWorld) impl.WldWorld {
	w.Arena.Nodes = roomy(w.Arena.Nodes, junkNode)
	w.Pool = roomyPool(w.Pool)
	w.Hands = roomy(w.Hands, junkHand)
	w.Log = roomy(w.Log, junkRec)
	return w
}

// wholeWorld is a copy of a world, with the room behind the end of each list as if it were in it.
func wholeWorld(w impl.WldWorld) impl.WldWorld {
	w.Arena.Nodes = slices.Clone(w.Arena.Nodes[:cap(w.Arena.Nodes)])
	w.Pool = wholePool(w.Pool)
	w.Hands = slices.Clone(w.Hands[:cap(w.Hands)])
	w.Log = slices.Clone(w.Log[:cap(w.Log)])
	return w
}

func overwriteWorld(w impl.WldWorld, node impl.ArnNode, val int, old impl.PolOld, h impl.HndHand, r impl.LogRec) {
	overwrite(w.Arena.Nodes, node)
	overwritePool(w.Pool, val, old)
	overwrite(w.Hands, h)
	overwrite(w.Log, r)
}

// checkWorldMemory fails if a call writes into its argument, or behind it, or answers memory that it shares with that, with another answer, or between two lists of it.
func checkWorldMemory(t *testing.T, w impl.WldWorld, call func(impl.WldWorld) impl.WldWorld, of ...any) {
	t.Helper()
	argument := roomyWorld(cloneWorld(w))
	was := wholeWorld(argument)
	answer, second := call(argument), call(argument)
	want := cloneWorld(answer)
	wantWorld(t, wholeWorld(argument), was, of, "the argument behind the call")
	overwriteWorld(answer, otherNode, otherVal, otherOld, otherHand, otherRec)
	wantWorld(t, wholeWorld(argument), was, of, "the argument behind a write into the answer")
	wantWorld(t, second, want, of, "the second answer behind a write into the first")
	overwriteWorld(argument, junkNode, junkVal, junkOld, junkHand, junkRec)
	wantWorld(t, second, want, of, "the answer behind a write into the argument")
	wantNoSharedLists(t, second, of)
}

// wantNoSharedLists writes into one list of what was taken out, and behind it: all others are of another kind.
func wantNoSharedLists(t *testing.T, w impl.WldWorld, of ...any) {
	t.Helper()
	for k, taken := range w.Pool.Limbo {
		was := wholePool(w.Pool)
		overwrite(taken, otherOld)
		for other := range w.Pool.Limbo {
			if other != k && !slices.Equal(w.Pool.Limbo[other], was.Limbo[other][:len(w.Pool.Limbo[other])]) {
				t.Errorf("lists %d and %d share memory, of %v", k, other, of)
			}
		}
	}
}

// memoryWorlds are worlds of which each list has something in it, and worlds that are not ok.
func memoryWorlds() map[string]impl.WldWorld {
	long := busyWorld(impl.PcEpoch, getOp)
	long.Pool.Limbo = [][]impl.PolOld{olds(3, 1), olds(7, 2), olds(9, 3)}
	long.Hands = []impl.HndHand{{}, busyHandAt(impl.PcEpoch, getOp), {}}
	end := cloneWorld(long)
	end.Clock = impl.ClkMost
	wrong := cloneWorld(long)
	wrong.Clock = -1
	return map[string]impl.WldWorld{"nothing": {}, "new": impl.WldNew(), "long": long, "the end": end, "wrong": wrong}
}

func TestStepsAreNewMemory(t *testing.T) {
	for name, c := range stepCases() {
		checkWorldMemory(t, c.world(), func(w impl.WldWorld) impl.WldWorld { return impl.WldStep(w, acting) }, name)
	}
	for name, w := range memoryWorlds() {
		for k := -1; k <= impl.PolHands; k++ {
			checkWorldMemory(t, w, func(w impl.WldWorld) impl.WldWorld { return impl.WldStep(w, k) }, name, k)
		}
	}
}

func TestCallsAreNewMemory(t *testing.T) {
	for name, w := range memoryWorlds() {
		for k := -1; k <= impl.PolHands; k++ {
			for _, o := range []impl.OpOp{putOp, {}, op(impl.OpGet, -1)} {
				checkWorldMemory(t, w, func(w impl.WldWorld) impl.WldWorld { return impl.WldCall(w, k, o) }, name, k, o)
			}
		}
	}
}

func TestNewWorldsAreNewMemory(t *testing.T) {
	one, two := impl.WldNew(), impl.WldNew()
	want := cloneWorld(two)
	overwriteWorld(one, otherNode, otherVal, otherOld, otherHand, otherRec)
	wantWorld(t, two, want, "another new world")
	wantWorld(t, impl.WldNew(), want, "the next new world")
	for k := range impl.PolHands {
		w := impl.WldNew()
		w.Pool.Limbo[k] = append(w.Pool.Limbo[k], otherOld)
		wantNoSharedLists(t, w, "new", k)
	}
}
