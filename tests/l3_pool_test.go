package tests

import (
	"math"
	"slices"
	"testing"

	"loop.example/tuggers/impl"
)

func TestNewPool(t *testing.T) {
	p := impl.PolNew()
	if want := pool(0, make([]int, impl.PolHands), nil, nil, nil); !samePool(p, want) {
		t.Errorf("a new pool is %v, want %v", p, want)
	}
	wantPoolOk(t, p, true, "new")
	wantInts(t, impl.PolOut(p), nil, "new")
	for k := range impl.PolHands {
		wantFree(t, p, k, 0, -1)
		wantFree(t, p, k, impl.PolMost, -1)
	}
}

func TestPoolsThatAreOk(t *testing.T) {
	for name, p := range okPools() {
		wantPoolOk(t, p, true, name)
	}
}

func TestPoolsThatAreNotOk(t *testing.T) {
	for name, p := range wrongPools() {
		wantPoolOk(t, p, false, name)
	}
}

func TestPoolOkAtTheBoundsOfTheEpoch(t *testing.T) {
	for epoch, want := range map[int]bool{-1: false, 0: true, 1: true, impl.PolMost - 1: true, impl.PolMost: true, impl.PolMost + 1: false} {
		wantPoolOk(t, turnedPool(impl.PolNew(), func(p *impl.PolPool) { p.Epoch = epoch }), want)
	}
}

func TestPoolOkAtTheBoundsOfPins(t *testing.T) {
	for _, epoch := range []int{0, 1, 7, impl.PolMost} {
		for k := range impl.PolHands {
			for pin, want := range map[int]bool{math.MinInt: false, -1: false, 0: true, 1: true, epoch: true, epoch + 1: true, epoch + 2: false, math.MaxInt: false} {
				wantPoolOk(t, turnedPool(impl.PolNew(), func(p *impl.PolPool) { p.Epoch, p.Pins[k] = epoch, pin }), want)
			}
		}
	}
}

func TestPoolOkAtTheBoundsOfWhatWasTakenOut(t *testing.T) {
	for k := range impl.PolHands {
		for place, want := range map[int]bool{-1: false, 0: false, 1: true, impl.ArnSize: true, impl.ArnSize + 1: false} {
			wantPoolOk(t, turnedPool(impl.PolNew(), func(p *impl.PolPool) { p.Limbo[k] = olds(place, 0) }), want)
			wantPoolOk(t, turnedPool(impl.PolNew(), func(p *impl.PolPool) { p.Limbo[k] = olds(5, 0, place, 0) }), want)
		}
		for _, epoch := range []int{0, 7, impl.PolMost} {
			for when, want := range map[int]bool{-1: false, 0: true, epoch: true, epoch + 1: false} {
				wantPoolOk(t, turnedPool(impl.PolNew(), func(p *impl.PolPool) { p.Epoch, p.Limbo[k] = epoch, olds(5, when) }), want)
			}
		}
	}
}

func TestPoolOkOfSoManyHands(t *testing.T) {
	for pins := range impl.PolHands + 3 {
		for lists := range impl.PolHands + 3 {
			p := impl.PolPool{Pins: make([]int, pins), Limbo: make([][]impl.PolOld, lists)}
			wantPoolOk(t, p, pins == impl.PolHands && lists == impl.PolHands, pins, lists)
		}
	}
}

// Each place stands twice with each two hands, and with one.
func TestPoolOkOfAPlaceTwice(t *testing.T) {
	for place := 1; place <= impl.ArnSize; place++ {
		for one := range impl.PolHands {
			for two := range impl.PolHands {
				p := impl.PolNew()
				p.Epoch = 3
				p.Limbo[one] = append(p.Limbo[one], olds(place, 1)...)
				wantPoolOk(t, p, true)
				p.Limbo[two] = append(p.Limbo[two], olds(place, 2)...)
				wantPoolOk(t, p, false)
			}
		}
	}
}

// P78

func TestPoolWithoutWhatAHandTookOut(t *testing.T) {
	for name, p := range okPools() {
		for k := range impl.PolHands {
			wantPoolOk(t, turnedPool(p, func(q *impl.PolPool) { q.Limbo[k] = nil }), true, name)
			wantPoolOk(t, turnedPool(p, func(q *impl.PolPool) { q.Limbo[k] = []impl.PolOld{} }), true, name)
			for at := range p.Limbo[k] {
				wantPoolOk(t, turnedPool(p, func(q *impl.PolPool) { q.Limbo[k] = slices.Delete(q.Limbo[k], at, at+1) }), true, name)
			}
		}
	}
}

func TestPoolWithNobodyPinned(t *testing.T) {
	for name, p := range okPools() {
		wantPoolOk(t, turnedPool(p, func(q *impl.PolPool) { q.Pins = make([]int, impl.PolHands) }), true, name)
		for k := range impl.PolHands {
			wantPoolOk(t, turnedPool(p, func(q *impl.PolPool) { q.Pins[k] = 0 }), true, name)
		}
	}
}

func TestPoolWithALaterEpoch(t *testing.T) {
	for name, p := range okPools() {
		for _, later := range []int{p.Epoch + 1, p.Epoch + 2, p.Epoch + 1000, impl.PolMost, impl.PolMost + 1} {
			wantPoolOk(t, turnedPool(p, func(q *impl.PolPool) { q.Epoch = later }), later <= impl.PolMost, name, later)
		}
	}
}

// P21

func TestOutIsHandByHandInOrder(t *testing.T) {
	wantInts(t, impl.PolOut(busyPool()), []int{4, 9, 1, 7, 2, 6, 3})
	pools := okPools()
	wantInts(t, impl.PolOut(pools["all with the first hand"]), []int{9, 8, 7, 6, 5, 4, 3, 2, 1})
	wantInts(t, impl.PolOut(pools["all with the last hand"]), []int{1, 2, 3, 4, 5, 6, 7, 8, 9})
	wantInts(t, impl.PolOut(pools["three with each"]), []int{1, 4, 7, 2, 5, 8, 3, 6, 9})
	wantInts(t, impl.PolOut(pools["empty lists"]), nil)
}

func TestOutOfPoolsThatAreNotOk(t *testing.T) {
	wrong := wrongPools()
	wantInts(t, impl.PolOut(wrong["nothing"]), nil)
	wantInts(t, impl.PolOut(wrong["no lists"]), nil)
	wantInts(t, impl.PolOut(wrong["no pins"]), []int{4, 9, 1, 7, 2, 6, 3})
	wantInts(t, impl.PolOut(wrong["one list too few"]), []int{4, 9, 1, 7})
	wantInts(t, impl.PolOut(wrong["one list more, of one"]), []int{4, 9, 1, 7, 2, 6, 3, 8})
	wantInts(t, impl.PolOut(wrong["twice, apart"]), []int{4, 5, 6, 4})
	wantInts(t, impl.PolOut(wrong["twice, with 0 and 2"]), []int{1, 9, 9})
	wantInts(t, impl.PolOut(wrong["the head, hand 1"]), []int{4, 9, 1, 0, 2, 6, 3})
	wantInts(t, impl.PolOut(wrong["place far above, hand 0"]), []int{math.MaxInt, 9, 1, 7, 2, 6, 3})
	wantInts(t, impl.PolOut(wrong["place below, hand 2"]), []int{4, 9, 1, 7, -1, 6, 3})
	wantInts(t, impl.PolOut(wrong["far too many places"]), make([]int, 50))
	wantInts(t, impl.PolOut(turnedPool(busyPool(), func(p *impl.PolPool) { p.Epoch = -1 })), []int{4, 9, 1, 7, 2, 6, 3})
}

func TestOutOfAny(t *testing.T) {
	for name, p := range anyPools() {
		var want []int
		for _, taken := range p.Limbo {
			for _, old := range taken {
				want = append(want, old.Node)
			}
		}
		wantInts(t, impl.PolOut(p), want, name)
	}
}

func TestOutOfAPoolThatIsOkHasNoPlaceTwice(t *testing.T) {
	for name, p := range anyPools() {
		out := slices.Sorted(slices.Values(impl.PolOut(p)))
		if impl.PolOk(p) && len(slices.Compact(slices.Clone(out))) != len(out) {
			t.Errorf("%s: a place is out twice: %v", name, out)
		}
	}
}

// P20

func TestFreeIsTwoEpochsAhead(t *testing.T) {
	for _, epoch := range []int{0, 1, 5, 1000, impl.PolMost - 3, impl.PolMost - 2, impl.PolMost - 1, impl.PolMost} {
		for k := range impl.PolHands {
			p := impl.PolNew()
			p.Epoch = epoch
			p.Limbo[k] = olds(4, epoch)
			for later, want := range map[int]int{epoch - 2: -1, epoch - 1: -1, epoch: -1, epoch + 1: -1, epoch + 2: 0, epoch + 3: 0} {
				if later > impl.PolMost {
					want = -1
				}
				wantFree(t, p, k, later, want)
				for other := range impl.PolHands {
					if other != k {
						wantFree(t, p, other, later, -1)
					}
				}
			}
		}
	}
}

func TestFreeIsTheFirstOfSeveral(t *testing.T) {
	p := busyPool()
	// With hand 0 epochs are 2, 3 and 5, with hand 1 it is 4, with hand 2 they are 5, 1 and 0.
	for hand, wants := range [][]int{
		{-1, -1, -1, -1, 0, 0, 0, 0, 0},
		{-1, -1, -1, -1, -1, -1, 0, 0, 0},
		{-1, -1, 2, 1, 1, 1, 1, 0, 0},
	} {
		for epoch, want := range wants {
			wantFree(t, p, hand, epoch, want)
		}
	}
	full := okPools()["all with the last hand"]
	for epoch, want := range map[int]int{13: -1, 14: 8, 15: 7, 19: 3, 21: 1, 22: 0, impl.PolMost: 0} {
		wantFree(t, full, 2, epoch, want)
	}
}

// Neither the pool's epoch nor who is pinned says what may be free: the epoch that is asked does.
func TestFreeHangsOnTheEpochThatIsAsked(t *testing.T) {
	for _, epoch := range []int{3, 4, 5, 6, impl.PolMost} {
		for _, pin := range []int{0, 1, epoch, epoch + 1} {
			p := pool(epoch, []int{pin, pin, pin}, olds(8, 3), nil, nil)
			wantFree(t, p, 0, 4, -1)
			wantFree(t, p, 0, 5, 0)
		}
	}
}

func TestFreeOfAny(t *testing.T) {
	for name, p := range anyPools() {
		for hand := -1; hand <= impl.PolHands; hand++ {
			for _, epoch := range []int{-1, 0, 1, 2, 3, 4, 5, 6, 7, 11, 14, 22, impl.PolMost, impl.PolMost + 1} {
				want := -1
				if impl.PolOk(p) && hand >= 0 && hand < impl.PolHands && epoch >= 0 && epoch <= impl.PolMost {
					want = slices.IndexFunc(p.Limbo[hand], func(old impl.PolOld) bool { return old.Epoch <= epoch-2 })
				}
				if got := impl.PolFree(p, hand, epoch); got != want {
					t.Errorf("%s: free for hand %d and epoch %d is %d, want %d", name, hand, epoch, got, want)
				}
			}
		}
	}
}

func TestFreeWithALaterEpochToo(t *testing.T) {
	for name, p := range okPools() {
		for k := range impl.PolHands {
			was := -1
			for epoch := range p.Epoch%1000 + 10 {
				got := impl.PolFree(p, k, epoch)
				if was >= 0 && (got < 0 || got > was) {
					t.Errorf("%s: free for hand %d and epoch %d is %d, and ahead of it %d", name, k, epoch, got, was)
				}
				was = got
			}
		}
	}
}

func TestFreeOfNoHandAndNoEpoch(t *testing.T) {
	p := pool(9, []int{0, 0, 0}, olds(1, 0), olds(2, 0), olds(3, 0))
	for k := range impl.PolHands {
		wantFree(t, p, k, impl.PolMost, 0)
		for _, epoch := range []int{math.MinInt, -1, impl.PolMost + 1, math.MaxInt} {
			wantFree(t, p, k, epoch, -1)
		}
	}
	for _, hand := range []int{math.MinInt, -1, impl.PolHands, impl.PolHands + 1, math.MaxInt} {
		wantFree(t, p, hand, 9, -1)
	}
}

func TestFreeOfPoolsThatAreNotOk(t *testing.T) {
	for name, p := range wrongPools() {
		for hand := -1; hand <= impl.PolHands; hand++ {
			for _, epoch := range []int{0, 7, impl.PolMost} {
				if got := impl.PolFree(p, hand, epoch); got != -1 {
					t.Errorf("%s: free for hand %d and epoch %d is %d", name, hand, epoch, got)
				}
			}
		}
	}
}
