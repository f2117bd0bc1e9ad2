package tests

import (
	"math"
	"testing"

	"loop.example/tuggers/impl"
)

// P34

func TestRoundIsAStepOfEachHand(t *testing.T) {
	eachWorld(t, 97, func(n int, w impl.WldWorld) {
		for _, rounds := range []int{1, 2, 7, 40} {
			wantWorld(t, impl.WldRound(w, rounds), roundByHand(w, rounds), "run", n, "rounds", rounds)
		}
	})
	eachBusyWorld(func(pc int, w impl.WldWorld) {
		wantWorld(t, impl.WldRound(w, 1), roundByHand(w, 1), pc)
	})
}

func TestRoundIsOfAllHands(t *testing.T) {
	w := impl.WldNew()
	for k := range impl.PolHands {
		w = ask(t, w, k, putOp)
	}
	w = impl.WldRound(w, 1)
	for k, h := range w.Hands {
		if h.Pc != impl.PcPin {
			t.Errorf("hand %d is at %d", k, h.Pc)
		}
	}
	if w.Clock != impl.PolHands {
		t.Errorf("the clock is %d", w.Clock)
	}
}

// The first one comes to the place ahead of the others: of three who put the same key, in turn, that is hand 0.
func TestRoundIsInOrder(t *testing.T) {
	w := impl.WldNew()
	for k := range impl.PolHands {
		w = ask(t, w, k, op(impl.OpPut, 5, 100+k))
	}
	w = impl.WldRound(w, 30)
	wantThere(t, w, entries(5, 100), nil, nil)
}

func TestRoundIsOfTwoHalves(t *testing.T) {
	eachWorld(t, 97, func(n int, w impl.WldWorld) {
		for _, rounds := range []int{1, 2, 5, 16, 41} {
			half := rounds / 2
			want := impl.WldRound(w, rounds)
			wantWorld(t, impl.WldRound(impl.WldRound(w, half), rounds-half), want, "run", n, "rounds", rounds)
			wantWorld(t, impl.WldRound(impl.WldRound(w, rounds), 0), want, "run", n, "and none")
		}
	})
}

func TestRoundOfWhoIsIdle(t *testing.T) {
	for _, rounds := range []int{math.MinInt, -1, 0, 1, 2, 499, 500} {
		wantWorld(t, impl.WldRound(impl.WldNew(), rounds), impl.WldNew(), rounds)
		wantWorld(t, impl.WldRound(idleWorld(), rounds), idleWorld(), rounds)
	}
}

func TestRoundBelowOne(t *testing.T) {
	eachBusyWorld(func(pc int, w impl.WldWorld) {
		for _, rounds := range []int{0, -1, -500, -501, math.MinInt} {
			wantWorld(t, impl.WldRound(w, rounds), w, pc, rounds)
		}
	})
}

// One who counts while others turn the map, and who is in nobody's way, goes on for long.
func TestRoundOfSoMany(t *testing.T) {
	w := impl.WldNew()
	for k := range impl.PolHands {
		w = ask(t, w, k, clearOp)
	}
	for _, rounds := range []int{499, 500} {
		got := impl.WldRound(w, rounds)
		wantWorld(t, got, roundByHand(w, rounds), rounds)
		if len(got.Log) != impl.PolHands || !allIdle(got) {
			t.Errorf("behind %d rounds hands are %+v", rounds, got.Hands)
		}
	}
	for _, rounds := range []int{501, 502, 1000, math.MaxInt} {
		wantWorld(t, impl.WldRound(w, rounds), impl.WldWorld{}, rounds)
		wantWorld(t, impl.WldRound(impl.WldNew(), rounds), impl.WldWorld{}, rounds, "new")
	}
}

func TestRoundOfAWorldThatIsNotOk(t *testing.T) {
	for name, w := range wrongWorlds() {
		for _, rounds := range []int{-1, 0, 1, 500, 501} {
			wantWorld(t, impl.WldRound(w, rounds), impl.WldWorld{}, name, rounds)
		}
	}
}

func TestRoundUpToTheEndOfTheClock(t *testing.T) {
	for ahead := range 8 {
		w := busyWorld(impl.PcScan, clearOp)
		w.Clock = impl.ClkMost - ahead
		got := impl.WldRound(w, 2)
		wantWorld(t, got, roundByHand(w, 2), "ahead of the end", ahead)
		if got.Clock != min(w.Clock+6, impl.ClkMost) {
			t.Errorf("%d ahead of the end the clock is %d", ahead, got.Clock)
		}
	}
}

// onlyActing has all hands idle but the acting one.
func onlyActing(w impl.WldWorld) impl.WldWorld {
	return turnedWorld(w, func(w *impl.WldWorld) {
		idle(0)(w, nil)
		idle(2)(w, nil)
	})
}
