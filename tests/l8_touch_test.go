package tests

import (
	"math"
	"slices"
	"testing"

	"loop.example/tuggers/impl"
)

// P62

// touches is a field of a hand, and where a hand touches what is in it, by the document's numbers.
type touches struct {
	field func(*impl.HndHand) *impl.HndRef
	pcs   []int
}

func touchesOf() map[string]touches {
	return map[string]touches{
		"Pred": {predOf, []int{6, 11, 13, 35}},
		"Curr": {currOf, []int{5, 8, 12, 25, 28, 30, 33, 38}},
		"Own":  {ownOf, []int{10, 14, 23}},
		"Old":  {oldOf, nil},
	}
}

// touchWorld has a hand there, with no place that is still as it was seen; at place 1 there is none in use.
func touchWorld(k, pc int) impl.WldWorld {
	w := turnedWorld(busyWorld(pc, putOp), func(w *impl.WldWorld) { w.Arena.Nodes[1].Used = false })
	gone := impl.HndRef{At: 1, Gen: 11}
	h := w.Hands[acting]
	h.Pred, h.Curr, h.Own, h.Old = gone, gone, gone, gone
	w.Hands = []impl.HndHand{busyHand(impl.PcKey), busyHand(impl.PcKey), busyHand(impl.PcKey)}
	w.Hands[k] = h
	return w
}

// wantTouchIs puts a place into each field of each hand, wherever it may be: what is told hangs on it just where it is touched.
func wantTouchIs(t *testing.T, r impl.HndRef, how func(*impl.WldWorld), there bool, of ...any) {
	t.Helper()
	for name, f := range touchesOf() {
		for k := range impl.PolHands {
			for _, pc := range anyPcs() {
				w := touchWorld(k, pc)
				how(&w)
				*f.field(&w.Hands[k]) = r
				want := plainTouch(w, k)
				if slices.Contains(f.pcs, pc) && want != there && (pc != 5 || r.At != 0) {
					t.Fatalf("%v: %s is there: %v", of, name, want)
				}
				wantStillThere(t, w, k, want, name, r, "hand", k, "at", pc, of)
			}
		}
	}
}

func unturned(*impl.WldWorld) {}

func TestTouchOfPlacesAsTheyWereSeen(t *testing.T) {
	for at := 2; at <= impl.ArnSize; at++ {
		wantTouchIs(t, ref(at), unturned, true, "as it was seen")
	}
	// The head is place 0, with a Gen of 0.
	wantTouchIs(t, impl.HndRef{}, unturned, true, "the head")
}

func TestTouchOfPlacesThatAreNotInUse(t *testing.T) {
	for at := 1; at <= impl.ArnSize; at++ {
		wantTouchIs(t, ref(at), func(w *impl.WldWorld) { w.Arena.Nodes[at].Used = false }, false, "not in use")
		wantTouchIs(t, ref(at), func(w *impl.WldWorld) { w.Arena.Nodes[at] = impl.ArnNode{Gen: at + 10} }, false, "given back")
	}
}

func TestTouchOfPlacesThatWereTakenAgain(t *testing.T) {
	for at := 2; at <= impl.ArnSize; at++ {
		for _, gen := range []int{math.MinInt, -1, 0, at + 9, at + 11, at + 12, math.MaxInt} {
			wantTouchIs(t, impl.HndRef{At: at, Gen: gen}, unturned, false, "seen with another Gen")
			wantTouchIs(t, ref(at), func(w *impl.WldWorld) { w.Arena.Nodes[at].Gen = gen }, false, "taken again")
		}
		wantTouchIs(t, ref(at), func(w *impl.WldWorld) { w.Arena.Nodes[at] = impl.ArnNode{Used: true, Gen: at + 10} }, true, "but for its Gen another one")
	}
}

func TestTouchOfPlacesThatThereAreNot(t *testing.T) {
	for _, none := range noPlaces() {
		wantTouchIs(t, none, unturned, false, "none")
	}
	for _, at := range []int{-10, -9, -2, -1, 10, 11, 20} {
		wantTouchIs(t, impl.HndRef{At: at, Gen: 11}, unturned, false, "none")
	}
}

// Ahead of the map, and of who counts, there is the head: a world that is not ok may have it otherwise.
func TestTouchOfTheHead(t *testing.T) {
	for _, pc := range anyPcs() {
		touchesHead := pc == 4 || pc == 37
		for k := range impl.PolHands {
			w := touchWorld(k, pc)
			w.Hands[k].Pred, w.Hands[k].Curr, w.Hands[k].Own = ref(4), ref(2), ref(3)
			wantStillThere(t, w, k, true, "hand", k, "at", pc)
			w.Arena.Nodes[0].Used = false
			wantStillThere(t, w, k, !touchesHead, "hand", k, "at", pc, "the head is not in use")
			w.Arena.Nodes[0].Used, w.Arena.Nodes[0].Gen = true, 1
			wantStillThere(t, w, k, !touchesHead, "hand", k, "at", pc, "the head was taken")
		}
	}
	wantTouchIs(t, impl.HndRef{Gen: 1}, unturned, false, "the head, seen with a Gen")
	wantTouchIs(t, impl.HndRef{}, func(w *impl.WldWorld) { w.Arena.Nodes[0].Used = false }, false, "the head, not in use")
}

// Behind the last place a hand looks at none, however often that would have been taken.
func TestTouchOfNoneBehindTheLast(t *testing.T) {
	for k := range impl.PolHands {
		for _, gen := range []int{-1, 0, 1, 10} {
			w := touchWorld(k, impl.PcNext)
			w.Hands[k].Curr = impl.HndRef{Gen: gen}
			wantStillThere(t, w, k, true, "hand", k, "Gen", gen)
		}
	}
}

// What touches no place is still there, whatever the hand holds.
func TestTouchOfHandsThatTouchNone(t *testing.T) {
	none := []int{0, 1, 2, 3, 7, 9, 15, 16, 17, 18, 19, 20, 21, 22, 24, 26, 27, 29, 31, 32, 34, 36, 39, 40}
	for _, pc := range append(none, noPcs()...) {
		for k := range impl.PolHands {
			wantStillThere(t, touchWorld(k, pc), k, true, "hand", k, "at", pc)
		}
	}
	for k := range impl.PolHands {
		wantStillThere(t, impl.WldNew(), k, true, "idle", k)
	}
}

func TestTouchOfHandsThatThereAreNot(t *testing.T) {
	for _, k := range noHands() {
		wantStillThere(t, impl.WldNew(), k, false, "new")
		wantStillThere(t, busyWorld(impl.PcKey, getOp), k, false, "busy")
		wantStillThere(t, impl.WldWorld{}, k, false, "nothing")
	}
}

// Neither a hand that touches none, nor one that touches what is there, is told so then.
func TestTouchOfTooFewOrTooMany(t *testing.T) {
	for _, pc := range []int{impl.PcIdle, impl.PcPin, impl.PcHead, impl.PcKey} {
		for size := range 20 {
			for k := -1; k <= size; k++ {
				w := busyWorld(pc, getOp)
				w.Hands = slices.Repeat(w.Hands[acting:acting+1], size)
				wantStillThere(t, w, k, size == 3 && k >= 0 && k < 3, "so many hands", size, "at", pc)
				w = busyWorld(pc, getOp)
				w.Arena.Nodes = slices.Concat(w.Arena.Nodes, make([]impl.ArnNode, 10))[:size]
				wantStillThere(t, w, k, size == 10 && k >= 0 && k < 3, "so many places", size, "at", pc)
			}
		}
	}
}

// Whether the world is ok does not matter beyond that.
func TestTouchOfWorldsThatAreNotOk(t *testing.T) {
	for name, w := range wrongWorlds() {
		whole := len(w.Hands) == 3 && len(w.Arena.Nodes) == 10
		for k := range impl.PolHands {
			wantStillThere(t, w, k, whole && plainTouch(w, k), name, k)
		}
	}
	for name, a := range anyArenas() {
		for _, pc := range everyPc() {
			w := busyWorld(pc, getOp)
			w.Arena = a
			wantStillThere(t, w, acting, len(a.Nodes) == 10 && plainTouch(w, acting), name, pc)
		}
	}
}

func TestTouchOfWildWorlds(t *testing.T) {
	count := map[bool]int{}
	for n := range 4000 {
		c := wild{chance(n)}
		w := c.world()
		for k := range impl.PolHands {
			want := plainTouch(w, k)
			count[want]++
			wantStillThere(t, w, k, want, "world", n)
		}
	}
	if count[true] < 500 || count[false] < 20 {
		t.Errorf("places are as they were seen, or not: %v", count)
	}
}
