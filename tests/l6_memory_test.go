package tests

import (
	"maps"
	"runtime"
	"slices"
	"sync"
	"testing"
	"time"

	"loop.example/tuggers/impl"
)

// asksOfRuns are calls of each function of runs, by each way in which it may answer.
func asksOfRuns() map[string]func(impl.WldWorld) impl.WldWorld {
	events := func(all ...impl.EvEvent) func(impl.WldWorld) impl.WldWorld {
		return func(w impl.WldWorld) impl.WldWorld { return impl.WldRun(w, all) }
	}
	do := func(e impl.EvEvent) func(impl.WldWorld) impl.WldWorld {
		return func(w impl.WldWorld) impl.WldWorld { return impl.WldDo(w, e) }
	}
	work := func(k, most int) func(impl.WldWorld) impl.WldWorld {
		return func(w impl.WldWorld) impl.WldWorld {
			got, _ := impl.WldWork(w, k, most)
			return got
		}
	}
	rounds := func(n int) func(impl.WldWorld) impl.WldWorld {
		return func(w impl.WldWorld) impl.WldWorld { return impl.WldRound(w, n) }
	}
	tidy := func(n int) func(impl.WldWorld) impl.WldWorld {
		return func(w impl.WldWorld) impl.WldWorld { return impl.WldTidy(w, n) }
	}
	return map[string]func(impl.WldWorld) impl.WldWorld{
		"do a step":             do(stepOf(acting)),
		"do what is asked":      do(callOf(0, putOp)),
		"do of no hand":         do(stepOf(3)),
		"run of none":           events(),
		"run of one":            events(stepOf(acting)),
		"run of what is asked":  events(callOf(0, putOp)),
		"run of no hand":        events(stepOf(-1), callOf(3, popOp)),
		"run of more":           events(stepOf(acting), callOf(2, popOp), stepOf(3), stepOf(2), callOf(2, op(13))),
		"run of too many":       events(make([]impl.EvEvent, 2001)...),
		"work of no steps":      work(acting, 0),
		"work of one step":      work(acting, 1),
		"work to the end":       work(acting, 500),
		"work of who is idle":   work(0, 500),
		"work of no hand":       work(3, 5),
		"work of too many":      work(acting, 501),
		"no round":              rounds(0),
		"one round":             rounds(1),
		"rounds":                rounds(30),
		"too many rounds":       rounds(501),
		"tidy never":            tidy(0),
		"tidy once":             tidy(1),
		"tidy three times":      tidy(3),
		"tidy too often":        tidy(10),
		"tidy, below one":       tidy(-1),
		"run below the bounds":  events(callOf(0, op(impl.OpPut, -1, -1))),
		"work below one":        work(acting, -1),
		"rounds below one":      rounds(-1),
		"work of a hand below":  work(-1, 5),
		"work till it is ended": work(2, 500),
	}
}

// worldsOfRuns are those of memory, idle ones among them, of which each list has something in it, and some of which a step leaves one that is not ok.
func worldsOfRuns() map[string]impl.WldWorld {
	all := memoryWorlds()
	rest := idleWorld()
	rest.Pool.Limbo = [][]impl.PolOld{olds(3, 1), olds(7, 2), olds(9, 3)}
	all["idle"] = rest
	all["once too often"] = onceTooOften()
	broken := brokenSteps()
	for _, name := range slices.Sorted(maps.Keys(broken))[:5] {
		all["broken "+name] = broken[name][0]
	}
	return all
}

// eachAskOfRuns is each call of each world.
func eachAskOfRuns(do func(name string, w impl.WldWorld, call func(impl.WldWorld) impl.WldWorld)) {
	for ask, call := range asksOfRuns() {
		for name, w := range worldsOfRuns() {
			do(ask+" of "+name, w, call)
		}
	}
}

func TestRunsAreNewMemory(t *testing.T) {
	eachAskOfRuns(func(name string, w impl.WldWorld, call func(impl.WldWorld) impl.WldWorld) {
		checkWorldMemory(t, w, call, name)
	})
}

var junkEvent, otherEvent = stepOf(77), stepOf(66)

// What is written into the list of what happens, once it has happened, turns no answer; and a run writes nothing into it.
func TestRunsLeaveTheirEvents(t *testing.T) {
	argument := roomy(longEvents(20), junkEvent)
	was := slices.Clone(argument[:cap(argument)])
	got := impl.WldRun(impl.WldNew(), argument)
	want := cloneWorld(got)
	if !slices.Equal(argument[:cap(argument)], was) {
		t.Errorf("a run turned what happens: %v", argument[:cap(argument)])
	}
	overwrite(argument, otherEvent)
	wantWorld(t, got, want, "behind a write into what happens")
}

// wantNobodyLeft holds that there are no more goroutines than there were. One that has come to its end may need a while to be gone.
func wantNobodyLeft(t *testing.T, were int, of ...any) {
	t.Helper()
	for range 2000 {
		if runtime.NumGoroutine() <= were {
			return
		}
		time.Sleep(time.Millisecond)
	}
	t.Fatalf("there are %d goroutines, and were %d, behind %v", runtime.NumGoroutine(), were, of)
}

func TestNoHandIsLeftBehind(t *testing.T) {
	were := runtime.NumGoroutine()
	eachAskOfRuns(func(name string, w impl.WldWorld, call func(impl.WldWorld) impl.WldWorld) {
		call(w)
		wantNobodyLeft(t, were, name)
	})
	for name, w := range wrongWorlds() {
		for ask, call := range asksOfRuns() {
			call(w)
			wantNobodyLeft(t, were, ask, name)
		}
	}
	for name, ws := range brokenSteps() {
		impl.WldRun(ws[0], []impl.EvEvent{stepOf(acting), stepOf(0), stepOf(2), stepOf(acting)})
		impl.WldWork(ws[0], acting, 500)
		impl.WldRound(ws[0], 3)
		wantNobodyLeft(t, were, name)
	}
}

// atOnce counts the calls behind which there is nobody more, with no while to wait.
func atOnce(calls int, call func()) int {
	were := runtime.NumGoroutine()
	count := 0
	for range calls {
		call()
		if runtime.NumGoroutine() <= were {
			count++
		}
	}
	return count
}

// With one processor a hand that was told to end, and is not waited for, has had no turn yet when the call answers. One that was waited for may, at times, be seen just ahead of its end.
func TestHandsHaveEndedWhenACallAnswers(t *testing.T) {
	defer runtime.GOMAXPROCS(runtime.GOMAXPROCS(1))
	eachAskOfRuns(func(name string, w impl.WldWorld, call func(impl.WldWorld) impl.WldWorld) {
		if count := atOnce(6, func() { call(w) }); count == 0 {
			t.Errorf("behind each %s there were hands left", name)
		}
	})
}

// Where many calls go on beside each other, of the same world, each answers as if it were alone.
func TestCallsBesideEachOtherDoNotMeet(t *testing.T) {
	type asked struct {
		name string
		w    impl.WldWorld
		call func(impl.WldWorld) impl.WldWorld
	}
	var all []asked
	var want []impl.WldWorld
	eachAskOfRuns(func(name string, w impl.WldWorld, call func(impl.WldWorld) impl.WldWorld) {
		all = append(all, asked{name, w, call})
		want = append(want, call(w))
	})
	got := make([]impl.WldWorld, 4*len(all))
	var callers sync.WaitGroup
	for n := range got {
		callers.Go(func() {
			a := all[n%len(all)]
			got[n] = a.call(a.w)
		})
	}
	callers.Wait()
	for n := range got {
		wantWorld(t, got[n], want[n%len(all)], all[n%len(all)].name, "beside others")
	}
}

// The same run answers the same, however goroutines take their turns.
func TestRunsAreTheSameEachTime(t *testing.T) {
	events := eventsOf(t, 3, 2000)
	want := impl.WldRun(impl.WldNew(), events)
	var callers sync.WaitGroup
	got := make([]impl.WldWorld, 16)
	for n := range got {
		callers.Go(func() { got[n] = impl.WldRun(impl.WldNew(), events) })
	}
	callers.Wait()
	for n := range got {
		wantWorld(t, got[n], want, "run", n)
	}
}
