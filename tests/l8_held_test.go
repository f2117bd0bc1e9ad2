package tests

import (
	"math"
	"testing"

	"loop.example/tuggers/impl"
)

// P61

// holdingWorld has hands of which each holds an Own and an Old, if that is a bit of a number: at places 9, 8 and so on, so that they do not rise.
func holdingWorld(bits int) (impl.WldWorld, []int) {
	w := impl.WldNew()
	var want []int
	for k := range impl.PolHands {
		w.Hands[k] = impl.HndHand{Pc: impl.PcRetire, Op: delOp}
		for n, field := range []func(*impl.HndHand) *impl.HndRef{ownOf, oldOf} {
			if at := 2*k + n; bits&(1<<at) != 0 {
				*field(&w.Hands[k]) = impl.HndRef{At: 9 - at, Gen: at}
				want = append(want, 9-at)
			}
		}
	}
	return w, want
}

// The places that are held are free there, so that the world is not ok.
func TestHeldOfEachHand(t *testing.T) {
	for bits := range 64 {
		w, want := holdingWorld(bits)
		wantHeld(t, w, want, bits)
		wantWorldOk(t, w, false, bits)
	}
	wantHeld(t, impl.WldNew(), nil, "new")
}

func TestHeldWhereverAHandIs(t *testing.T) {
	for _, pc := range anyPcs() {
		for k := range impl.PolHands {
			w := impl.WldNew()
			w.Hands[k].Pc = pc
			wantHeld(t, w, nil, "none", pc, k)
			w.Hands[k].Own = ref(5)
			wantHeld(t, w, []int{5}, "Own", pc, k)
			w.Hands[k].Old = ref(4)
			wantHeld(t, w, []int{5, 4}, "both", pc, k)
			w.Hands[k].Own = impl.HndRef{}
			wantHeld(t, w, []int{4}, "Old", pc, k)
		}
	}
}

// What a hand just has seen it does not hold so.
func TestHeldIsNotWhatWasSeen(t *testing.T) {
	for _, pc := range anyPcs() {
		w := impl.WldNew()
		w.Hands[1] = busyHand(pc)
		wantHeld(t, w, []int{5, 6}, pc)
		w.Hands[1].Own, w.Hands[1].Old = impl.HndRef{}, impl.HndRef{}
		wantHeld(t, w, nil, pc)
	}
}

// How often a place was taken, and whether it is in use, does not matter; of one that is held twice both are told.
func TestHeldPlacesAsTheyStand(t *testing.T) {
	for at := 1; at <= impl.ArnSize; at++ {
		for _, gen := range []int{math.MinInt, -1, 0, 1, math.MaxInt} {
			w := impl.WldNew()
			r := impl.HndRef{At: at, Gen: gen}
			w.Hands[0].Old = r
			wantHeld(t, w, []int{at}, r)
			w.Hands[2].Own, w.Hands[2].Old = r, r
			wantHeld(t, w, []int{at, at, at}, r)
		}
	}
}

func TestHeldIsNoneOfPlacesThatThereAreNot(t *testing.T) {
	for _, none := range noRefs() {
		for k := range impl.PolHands {
			w := impl.WldNew()
			w.Hands[k].Own, w.Hands[k].Old = none, none
			wantHeld(t, w, nil, "neither is one", none)
			w.Hands[k].Own = ref(3)
			wantHeld(t, w, []int{3}, "Own alone is one", none)
			w.Hands[k].Own, w.Hands[k].Old = none, ref(3)
			wantHeld(t, w, []int{3}, "Old alone is one", none)
		}
	}
}

func TestHeldOfAnyWorld(t *testing.T) {
	wantHeld(t, impl.WldWorld{}, nil, "nothing")
	wantHeld(t, impl.WldWorld{Hands: []impl.HndHand{{Own: ref(9)}}}, []int{9}, "no places, and a hand too few")
	var many impl.WldWorld
	var want []int
	for n := range 20 {
		many.Hands = append(many.Hands, impl.HndHand{Own: ref(1 + n%9), Old: ref(9 - n%9)})
		want = append(want, 1+n%9, 9-n%9)
	}
	wantHeld(t, many, want, "twenty hands")
	for name, w := range wrongWorlds() {
		if len(w.Hands) > 0 {
			w.Hands[0].Own, w.Hands[len(w.Hands)-1].Old = ref(8), ref(1)
			wantHeld(t, w, plainHeld(w), name)
		}
	}
	for name, a := range anyArenas() {
		w := impl.WldWorld{Arena: a, Hands: []impl.HndHand{{}, {Own: ref(4)}, {Old: ref(2)}}}
		wantHeld(t, w, []int{4, 2}, name)
	}
}

func TestHeldOfWildWorlds(t *testing.T) {
	most := 0
	for n := range 4000 {
		c := wild{chance(n)}
		w := c.world()
		want := plainHeld(w)
		most = max(most, len(want))
		wantHeld(t, w, want, "world", n)
	}
	if most < 3 {
		t.Errorf("at most %d are held", most)
	}
}

// What a run comes to is held from the step that takes it to that which puts it in, gives it back, or notes it.
func TestHeldOnTheWay(t *testing.T) {
	w := alone(t, impl.WldNew(), 0, op(impl.OpPut, 3, 30))
	held := func(w impl.WldWorld, o impl.OpOp) []int {
		var at []int
		for w = ask(t, w, 1, o); w.Hands[1].Pc != impl.PcIdle; w = impl.WldStep(w, 1) {
			if all := impl.AudHeld(w); len(all) > 0 {
				at = append(at, w.Hands[1].Pc, all[0])
			}
		}
		return at
	}
	wantInts(t, held(w, op(impl.OpPush, 0, 7)), []int{10, 3, 22, 3, 23, 3, 24, 3}, "who pushes")
	wantInts(t, held(w, op(impl.OpPut, 5, 7)), []int{10, 3, 11, 3}, "who puts")
	wantInts(t, held(w, op(impl.OpPut, 3, 7)), nil, "who puts what is there")
	wantInts(t, held(w, op(impl.OpDel, 3)), []int{7, 2}, "who deletes")
}
