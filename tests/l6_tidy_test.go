package tests

import (
	"math"
	"testing"

	"loop.example/tuggers/impl"
)

// ended lets all hands come to their end, one behind the other.
func ended(w impl.WldWorld) impl.WldWorld {
	for k := range impl.PolHands {
		w, _ = impl.WldWork(w, k, 500)
	}
	return w
}

func TestTidyIsToClearUpHandByHand(t *testing.T) {
	eachWorld(t, 131, func(n int, w impl.WldWorld) {
		w = ended(w)
		for _, times := range []int{1, 2, 3} {
			got := impl.WldTidy(w, times)
			wantWorld(t, got, tidyByHand(w, times), "run", n, "times", times)
			wantCleared(t, got.Log[len(w.Log):], 3*times)
		}
	})
}

// wantCleared holds that just so many were told that they cleared up, hand by hand.
func wantCleared(t *testing.T, log []impl.LogRec, want int) {
	t.Helper()
	if len(log) != want {
		t.Fatalf("there are %d answers, want %d", len(log), want)
	}
	for n, r := range log {
		if r.Hand != n%impl.PolHands || r.Op != clearOp || r.Res != yes(0) {
			t.Errorf("answer %d is %v", n, r)
		}
	}
}

// The more often, the more epochs go by: each clearing ends one, as nobody is pinned.
func TestTidySoManyTimes(t *testing.T) {
	for times := -1; times <= 9; times++ {
		got := impl.WldTidy(impl.WldNew(), times)
		wantWorld(t, got, tidyByHand(impl.WldNew(), max(times, 0)), times)
		wantCleared(t, got.Log, 3*max(times, 0))
		if got.Pool.Epoch != 3*max(times, 0) || !allIdle(got) {
			t.Errorf("%d times: the epoch is %d", times, got.Pool.Epoch)
		}
	}
	for _, times := range []int{10, 11, 500, math.MaxInt} {
		wantWorld(t, impl.WldTidy(impl.WldNew(), times), impl.WldWorld{}, times)
		wantWorld(t, impl.WldTidy(idleWorld(), times), impl.WldWorld{}, times, "with things in it")
	}
}

func TestTidyBelowOne(t *testing.T) {
	for _, times := range []int{0, -1, -9, -10, math.MinInt} {
		wantWorld(t, impl.WldTidy(impl.WldNew(), times), impl.WldNew(), times)
		wantWorld(t, impl.WldTidy(idleWorld(), times), idleWorld(), times)
		wantWorld(t, impl.WldTidy(busyWorld(impl.PcKey, getOp), times), busyWorld(impl.PcKey, getOp), times)
	}
}

// One that is not idle is enough, whichever, and wherever it is.
func TestTidyWhereOneIsNotIdle(t *testing.T) {
	for _, pc := range everyPc() {
		for k := range impl.PolHands {
			w := swappedHands(onlyActing(busyWorld(pc, getOp)), k)
			for _, times := range []int{-1, 0, 1, 3, 9} {
				wantWorld(t, impl.WldTidy(w, times), w, pc, k, times)
			}
		}
	}
	w := ask(t, impl.WldNew(), 2, popOp)
	wantWorld(t, impl.WldTidy(w, 3), w, "just asked")
}

// What is bounded is looked at ahead of the hands.
func TestTidyTooOftenWhereOneIsNotIdle(t *testing.T) {
	for _, times := range []int{10, math.MaxInt} {
		wantWorld(t, impl.WldTidy(busyWorld(impl.PcKey, getOp), times), impl.WldWorld{}, times)
	}
}

func TestTidyOfAWorldThatIsNotOk(t *testing.T) {
	for name, w := range wrongWorlds() {
		for _, times := range []int{-1, 0, 1, 9, 10} {
			wantWorld(t, impl.WldTidy(w, times), impl.WldWorld{}, name, times)
		}
	}
}

// Behind three times just what is there is in use, and it is as it was.
func TestTidyLeavesJustWhatIsThere(t *testing.T) {
	freed := 0
	eachWorld(t, 67, func(n int, w impl.WldWorld) {
		w = ended(w)
		got := impl.WldTidy(w, 3)
		left := len(impl.ArnChain(got.Arena)) + len(impl.ArnStacked(got.Arena)) + len(impl.ArnQueued(got.Arena))
		if impl.ArnFree(got.Arena) != impl.ArnSize-left || len(impl.PolOut(got.Pool)) != 0 {
			t.Errorf("run %d: there is more in use than map, stack and queue: %+v", n, got)
		}
		if m := impl.ArnMap(got.Arena); len(m.Entries) != len(impl.ArnChain(got.Arena)) || !sameMap(m, impl.ArnMap(w.Arena)) {
			t.Errorf("run %d: the map is %v, and was %v", n, m, impl.ArnMap(w.Arena))
		}
		wantInts(t, impl.ArnStack(got.Arena), impl.ArnStack(w.Arena), "run", n, "the stack")
		wantInts(t, impl.ArnQueue(got.Arena), impl.ArnQueue(w.Arena), "run", n, "the queue")
		freed += impl.ArnFree(got.Arena) - impl.ArnFree(w.Arena)
	})
	if freed == 0 {
		t.Error("no place came back")
	}
}

// Where the clock ends a hand is asked all the same, and stays where it is.
func TestTidyUpToTheEndOfTheClock(t *testing.T) {
	for ahead := range 60 {
		w := impl.WldNew()
		w.Clock = impl.ClkMost - ahead
		for _, times := range []int{1, 2, 9} {
			got := impl.WldTidy(w, times)
			wantWorld(t, got, tidyByHand(w, times), "ahead of the end", ahead, "times", times)
			if ahead < 40 && (got.Clock != impl.ClkMost || got.Hands[2].Op != clearOp) {
				t.Errorf("%d ahead of the end the clock is %d, and hands are %+v", ahead, got.Clock, got.Hands)
			}
		}
	}
}

// Where as many answers are noted as there are to be, hands clear up all the same.
func TestTidyWhereTheLogIsFull(t *testing.T) {
	for _, size := range []int{392, 398, 399, 400} {
		w := idleWorld()
		soMany(size)(&w, nil)
		got := impl.WldTidy(w, 3)
		wantWorld(t, got, tidyByHand(w, 3), "answers", size)
		if len(got.Log) != 400 || got.Pool.Epoch != epochThen+9 {
			t.Errorf("of %d answers there are %d, and the epoch is %d", size, len(got.Log), got.Pool.Epoch)
		}
	}
}

// onceTooOften has a marked place behind the head, whose word was turned so often that one time more can't be counted.
func onceTooOften() impl.WldWorld {
	w := idleWorld()
	w.Arena = marked(w.Arena, 4)
	w.Arena.Nodes[0].Ver = math.MaxInt
	return w
}
