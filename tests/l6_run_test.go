package tests

import (
	"slices"
	"testing"

	"loop.example/tuggers/impl"
)

// P32

func TestRunIsOneBehindTheOther(t *testing.T) {
	for n := range someRuns {
		events := eventsOf(t, n, 300)
		want := runByHand(impl.WldNew(), events)
		got := impl.WldRun(impl.WldNew(), events)
		wantWorld(t, got, want, "run", n)
		if got.Clock < 100 || len(got.Log) == 0 {
			t.Errorf("in run %d nearly nothing happened: the clock is %d", n, got.Clock)
		}
	}
}

func TestRunOfItsFirstPartAndThenTheRest(t *testing.T) {
	for n := range someRuns {
		events := eventsOf(t, n, 300)
		want := impl.WldRun(impl.WldNew(), events)
		for _, first := range []int{0, 1, 7, 100, 150, 299, 300} {
			w := impl.WldRun(impl.WldRun(impl.WldNew(), events[:first]), events[first:])
			wantWorld(t, w, want, "run", n, "from", first)
		}
	}
}

// From any world that is ok, though no run comes to it.
func TestRunOfBusyWorlds(t *testing.T) {
	turns := []impl.EvEvent{stepOf(acting), stepOf(0), callOf(acting, popOp), stepOf(3), stepOf(2), stepOf(acting), callOf(-1, putOp), stepOf(0)}
	eachBusyWorld(func(pc int, w impl.WldWorld) {
		for size := range turns {
			wantWorld(t, impl.WldRun(w, turns[:size]), runByHand(w, turns[:size]), pc, size)
		}
	})
}

func TestRunOfNothing(t *testing.T) {
	for _, w := range []impl.WldWorld{impl.WldNew(), idleWorld(), busyWorld(impl.PcKey, getOp)} {
		wantWorld(t, impl.WldRun(w, nil), w, "none")
		wantWorld(t, impl.WldRun(w, []impl.EvEvent{}), w, "an empty list")
	}
}

// longEvents are as many as there are to be, and each of them turns something.
func longEvents(size int) []impl.EvEvent {
	var events []impl.EvEvent
	for k := 0; len(events) < size; k = (k + 1) % impl.PolHands {
		events = append(events, callOf(k, popOp))
		// A pop of none is told in six steps.
		events = append(events, slices.Repeat([]impl.EvEvent{stepOf(k)}, 6)...)
	}
	return events[:size]
}

func TestRunOfSoMany(t *testing.T) {
	for _, size := range []int{1, 1999, 2000} {
		got := impl.WldRun(impl.WldNew(), longEvents(size))
		wantWorld(t, got, runByHand(impl.WldNew(), longEvents(size)), "so many", size)
		if want := size / 7; len(got.Log) != want {
			t.Errorf("behind %d things there are %d answers, want %d", size, len(got.Log), want)
		}
	}
	for _, size := range []int{2001, 2002, 4000, 100000} {
		wantWorld(t, impl.WldRun(impl.WldNew(), longEvents(size)), impl.WldWorld{}, "too many", size)
		idle := slices.Repeat([]impl.EvEvent{stepOf(-1)}, size)
		wantWorld(t, impl.WldRun(impl.WldNew(), idle), impl.WldWorld{}, "too many of no hand", size)
	}
}

// Two lists, together just as many as there may be at once.
func TestRunOfTwoLongParts(t *testing.T) {
	for _, n := range []int{0, 9, 18, 27} {
		events := eventsOf(t, n, 2000)
		want := impl.WldRun(impl.WldNew(), events)
		wantWorld(t, want, runByHand(impl.WldNew(), events), "run", n)
		for _, first := range []int{0, 1, 1000, 1999, 2000} {
			w := impl.WldRun(impl.WldRun(impl.WldNew(), events[:first]), events[first:])
			wantWorld(t, w, want, "run", n, "from", first)
		}
	}
}

func TestRunOfWhatTurnsNothing(t *testing.T) {
	var events []impl.EvEvent
	for _, k := range noHands() {
		events = append(events, stepOf(k), callOf(k, popOp), callOf(k, op(13)))
	}
	for _, o := range wrongOps() {
		if o.Kind != 0 {
			events = append(events, callOf(0, o), callOf(acting, o), callOf(2, o))
		}
	}
	for _, w := range []impl.WldWorld{impl.WldNew(), idleWorld(), busyWorld(impl.PcKey, getOp)} {
		wantWorld(t, impl.WldRun(w, events[:min(len(events), 2000)]), w, "nothing that can be")
	}
	w := busyWorld(impl.PcKey, getOp)
	between := []impl.EvEvent{stepOf(7), stepOf(acting), callOf(acting, popOp), stepOf(-1), stepOf(acting)}
	wantWorld(t, impl.WldRun(w, between), impl.WldStep(impl.WldStep(w, acting), acting), "between others")
}

func TestRunOfAWorldThatIsNotOk(t *testing.T) {
	for name, w := range wrongWorlds() {
		for _, size := range []int{0, 1, 7, 2000, 2001} {
			wantWorld(t, impl.WldRun(w, longEvents(size)), impl.WldWorld{}, name, size)
		}
	}
}

func TestRunAtTheEndOfTheClock(t *testing.T) {
	w := busyWorld(impl.PcScan, clearOp)
	for ahead := range 4 {
		w.Clock = impl.ClkMost - ahead
		events := []impl.EvEvent{stepOf(0), stepOf(acting), stepOf(2), stepOf(acting), stepOf(0), stepOf(3)}
		got := impl.WldRun(w, events)
		wantWorld(t, got, runByHand(w, events[:ahead]), "ahead of the end", ahead)
		if got.Clock != impl.ClkMost {
			t.Errorf("the clock is %d", got.Clock)
		}
	}
}
