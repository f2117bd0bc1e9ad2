package tests

import (
	"slices"
	"testing"

	"loop.example/tuggers/impl"
)

// wayOf lets a hand go on to its end, and is where it was ahead of each step.
func wayOf(t *testing.T, w impl.WldWorld, k int) (impl.WldWorld, []int) {
	t.Helper()
	var way []int
	for w.Hands[k].Pc != impl.PcIdle {
		if len(way) == 200 {
			t.Fatalf("hand %d comes to no end: %v", k, way)
		}
		way = append(way, w.Hands[k].Pc)
		w = impl.WldStep(w, k)
	}
	return w, way
}

// wantWay asks a hand something, and holds where it goes against the document's numbers; all begin with 1, 2, 3, and end with 15, 16.
func wantWay(t *testing.T, w impl.WldWorld, o impl.OpOp, res impl.ResRes, between ...int) impl.WldWorld {
	t.Helper()
	is, way := wayOf(t, ask(t, w, 0, o), 0)
	wantInts(t, way, slices.Concat([]int{1, 2, 3}, between, []int{15, 16}), "the way of", o)
	wantAnswer(t, is, 0, o, res)
	wantWorldOk(t, is, true, "behind", o)
	return is
}

func TestWaysOfTheMapAlone(t *testing.T) {
	w := wantWay(t, impl.WldNew(), op(impl.OpGet, 3), no, 4, 5)
	w = wantWay(t, w, op(impl.OpNext, 3), no, 4, 5)
	w = wantWay(t, w, op(impl.OpDel, 3), no, 4, 5)
	w = wantWay(t, w, op(impl.OpCount, 3), yes(0), 37, 37)
	w = wantWay(t, w, op(impl.OpPut, 3, 7), yes(0), 4, 5, 9, 10, 11)
	w = wantWay(t, w, op(impl.OpPut, 3, 8), no, 4, 5, 8)
	w = wantWay(t, w, op(impl.OpPut, 5, 9), yes(0), 4, 5, 8, 5, 9, 10, 11)
	w = wantWay(t, w, op(impl.OpPut, 4, 6), yes(0), 4, 5, 8, 5, 8, 9, 10, 11)
	w = wantWay(t, w, op(impl.OpGet, 4), yes(6), 4, 5, 8, 5, 8)
	w = wantWay(t, w, op(impl.OpGet, 2), no, 4, 5, 8)
	w = wantWay(t, w, op(impl.OpNext, 0), yes(3), 4, 5, 8)
	w = wantWay(t, w, op(impl.OpNext, 4), yes(4), 4, 5, 8, 5, 8)
	w = wantWay(t, w, op(impl.OpCount, 4), yes(2), 37, 38, 38, 38, 37, 38, 38, 38)
	w = wantWay(t, w, op(impl.OpDel, 4), yes(6), 4, 5, 8, 5, 8, 12, 13, 7)
	wantThere(t, w, entries(3, 7, 5, 9), nil, nil)
	wantInts(t, impl.PolOut(w.Pool), []int{4}, "taken out")
}

func TestWaysOfTheListsAlone(t *testing.T) {
	w := wantWay(t, impl.WldNew(), popOp, no, 22)
	w = wantWay(t, w, topOp, no, 22)
	w = wantWay(t, w, leaveOp, no, 32, 33)
	w = wantWay(t, w, frontOp, no, 32, 33)
	w = wantWay(t, w, op(impl.OpPush, 0, 7), yes(0), 9, 10, 22, 23, 24)
	w = wantWay(t, w, op(impl.OpPush, 0, 8), yes(0), 9, 10, 22, 23, 24)
	w = wantWay(t, w, topOp, yes(8), 22, 25, 39)
	w = wantWay(t, w, popOp, yes(8), 22, 25, 26, 7)
	w = wantWay(t, w, op(impl.OpEnter, 0, 5), yes(0), 9, 10, 27, 28, 30, 31)
	w = wantWay(t, w, op(impl.OpEnter, 0, 6), yes(0), 9, 10, 27, 28, 30, 31)
	w = wantWay(t, w, frontOp, yes(5), 32, 33, 35, 40)
	w = wantWay(t, w, leaveOp, yes(5), 32, 33, 34, 35, 36, 7)
	wantThere(t, w, impl.MapMap{}, []int{7}, []int{6})
	wantInts(t, impl.PolOut(w.Pool), []int{3, 1}, "taken out")
}

// Who clears up comes by all keys, and then by all pins; what it took out comes back two epochs later.
func TestWaysOfWhoClearsUpAlone(t *testing.T) {
	w := alone(t, impl.WldNew(), 0, op(impl.OpPush, 0, 7), popOp, op(impl.OpPut, 3, 7))
	clear := []int{1, 2, 3, 4, 5, 8, 5, 15, 17, 18, 18, 18, 19, 20, 21}
	for n, more := range [][]int{{16}, {21, 16}, {16}} {
		is, way := wayOf(t, ask(t, w, 0, clearOp), 0)
		wantInts(t, way, append(slices.Clone(clear), more...), "the way of who clears up", n)
		wantAnswer(t, is, 0, clearOp, yes(0))
		if is.Pool.Epoch != n+1 {
			t.Errorf("the epoch is %d, want %d", is.Pool.Epoch, n+1)
		}
		w = is
	}
	wantInts(t, impl.PolOut(w.Pool), nil, "taken out")
	if impl.ArnFree(w.Arena) != 7 || w.Arena.Nodes[2] != (impl.ArnNode{Gen: 1}) {
		t.Errorf("the place did not come back: %v", w.Arena)
	}
}

// The document's example: both find that the key is not there, and hand 1 turns the head's word first.
func TestTwoWhoPutTheSameKey(t *testing.T) {
	first, second := op(impl.OpPut, 3, 7), op(impl.OpPut, 3, 9)
	w := ask(t, ask(t, impl.WldNew(), 0, first), 1, second)
	for _, k := range []int{0, 1, 0, 1, 0, 1, 0, 1, 0, 1, 0, 1, 0, 1, 1, 0, 0, 0, 0, 0, 0, 0, 1, 1} {
		w = impl.WldStep(w, k)
	}
	wantThere(t, w, entries(3, 9), nil, nil)
	want := []impl.LogRec{
		{Hand: 0, Op: first, Res: no, Begin: 0, Point: 18, End: 22},
		{Hand: 1, Op: second, Res: yes(0), Begin: 0, Point: 15, End: 24},
	}
	if !slices.Equal(w.Log, want) {
		t.Errorf("the log is %v, want %v", w.Log, want)
	}
	if w.Pool.Epoch != 0 || impl.ArnFree(w.Arena) != 7 || len(impl.PolOut(w.Pool)) != 0 || w.Arena.Nodes[2].Used {
		t.Errorf("the place of who came too late was not given back: %v", w)
	}
}

// Who finds that another key came between puts its own place behind that.
func TestWhoPutsBehindAnotherOne(t *testing.T) {
	w := goTill(t, ask(t, impl.WldNew(), 0, op(impl.OpPut, 5, 50)), 0, impl.PcLink)
	own := w.Hands[0].Own
	w = alone(t, w, 1, op(impl.OpPut, 3, 30))
	w = impl.WldStep(w, 0)
	if w.Hands[0].Pc != impl.PcHead || w.Hands[0].Own != own {
		t.Fatalf("hand 0 is %+v", w.Hands[0])
	}
	w, way := wayOf(t, w, 0)
	wantInts(t, way, []int{4, 5, 8, 5, 10, 11, 15, 16}, "the way of who begins again")
	wantThere(t, w, entries(3, 30, 5, 50), nil, nil)
	wantInts(t, impl.ArnChain(w.Arena), []int{3, own.At}, "the map's places")
}

// The place ahead is marked between: what would be put behind it would be lost.
func TestWhoPutsBehindWhatIsDeleted(t *testing.T) {
	w := alone(t, impl.WldNew(), 0, op(impl.OpPut, 3, 30))
	w = goTill(t, ask(t, w, 0, op(impl.OpPut, 4, 40)), 0, impl.PcLink)
	w = goTill(t, ask(t, w, 1, op(impl.OpDel, 3)), 1, impl.PcCut)
	w, way := wayOf(t, w, 0)
	wantInts(t, way, []int{11, 4, 5, 6, 7, 5, 10, 11, 15, 16}, "the way of who finds a mark")
	wantInts(t, impl.PolOut(w.Pool), []int{2}, "taken out by who found it")
	w, way = wayOf(t, w, 1)
	wantInts(t, way, []int{13, 4, 5, 8, 15, 16}, "the way of who marked it")
	wantAnswer(t, w, 1, op(impl.OpDel, 3), yes(30))
	wantThere(t, w, entries(4, 40), nil, nil)
	wantInts(t, impl.PolOut(w.Pool), []int{2}, "taken out once")
	if !slices.Equal(w.Pool.Limbo[0], olds(2, 0)) {
		t.Errorf("hand 0 took it out: %v", w.Pool)
	}
}

func TestTwoWhoDeleteTheSameKey(t *testing.T) {
	del := op(impl.OpDel, 3)
	w := alone(t, impl.WldNew(), 0, op(impl.OpPut, 3, 30))
	w = goTill(t, ask(t, w, 0, del), 0, impl.PcMark)
	w = alone(t, w, 1, del)
	wantAnswer(t, w, 1, del, yes(30))
	w, way := wayOf(t, w, 0)
	wantInts(t, way, []int{12, 4, 5, 15, 16}, "the way of who comes too late")
	wantAnswer(t, w, 0, del, no)
	wantThere(t, w, impl.MapMap{}, nil, nil)
}

// Who gets a key, and finds it marked, takes it out of the way, and is told no.
func TestWhoGetsWhatIsMarked(t *testing.T) {
	w := alone(t, impl.WldNew(), 0, op(impl.OpPut, 3, 30), op(impl.OpPut, 5, 50))
	w = goTill(t, ask(t, w, 0, op(impl.OpDel, 3)), 0, impl.PcCut)
	w = ask(t, w, 1, op(impl.OpGet, 3))
	w, way := wayOf(t, w, 1)
	wantInts(t, way, []int{1, 2, 3, 4, 5, 6, 7, 5, 8, 15, 16}, "the way of who gets it")
	wantAnswer(t, w, 1, op(impl.OpGet, 3), no)
	w, way = wayOf(t, w, 0)
	wantInts(t, way, []int{13, 4, 5, 8, 15, 16}, "the way of who marked it")
	wantAnswer(t, w, 0, op(impl.OpDel, 3), yes(30))
	wantInts(t, impl.PolOut(w.Pool), []int{2}, "taken out once")
}

// Two find the same mark: one takes it out, the other one begins again.
func TestTwoWhoFindAMark(t *testing.T) {
	w := alone(t, impl.WldNew(), 0, op(impl.OpPut, 3, 30))
	w = goTill(t, ask(t, w, 0, op(impl.OpDel, 3)), 0, impl.PcCut)
	w = goTill(t, ask(t, w, 1, op(impl.OpNext, 0)), 1, impl.PcUnlink)
	w = goTill(t, ask(t, w, 2, op(impl.OpGet, 3)), 2, impl.PcUnlink)
	w, way := wayOf(t, w, 2)
	wantInts(t, way, []int{6, 7, 5, 15, 16}, "the way of the first")
	w, way = wayOf(t, w, 1)
	wantInts(t, way, []int{6, 4, 5, 15, 16}, "the way of the second")
	w, way = wayOf(t, w, 0)
	wantInts(t, way, []int{13, 4, 5, 15, 16}, "the way of who marked it")
	wantInts(t, impl.PolOut(w.Pool), []int{2}, "taken out once")
}

func TestWhoPushesWhileAnotherOneDoes(t *testing.T) {
	w := goTill(t, ask(t, impl.WldNew(), 0, op(impl.OpPush, 0, 7)), 0, impl.PcPush)
	w = alone(t, w, 1, op(impl.OpPush, 0, 8))
	w, way := wayOf(t, w, 0)
	wantInts(t, way, []int{24, 22, 23, 24, 15, 16}, "the way of who begins again")
	wantThere(t, w, impl.MapMap{}, []int{7, 8}, nil)
}

func TestWhoPopsWhileAnotherOneDoes(t *testing.T) {
	w := alone(t, impl.WldNew(), 0, op(impl.OpPush, 0, 7), op(impl.OpPush, 0, 8))
	w = goTill(t, ask(t, w, 0, popOp), 0, impl.PcPop)
	w = goTill(t, ask(t, w, 2, topOp), 2, impl.PcPeek)
	w = alone(t, w, 1, popOp)
	wantAnswer(t, w, 1, popOp, yes(8))
	w, way := wayOf(t, w, 2)
	wantInts(t, way, []int{39, 22, 25, 39, 15, 16}, "the way of who looks")
	wantAnswer(t, w, 2, topOp, yes(7))
	w, way = wayOf(t, w, 0)
	wantInts(t, way, []int{26, 22, 25, 26, 7, 15, 16}, "the way of who begins again")
	wantAnswer(t, w, 0, popOp, yes(7))
	wantThere(t, w, impl.MapMap{}, nil, nil)
}

// Who enters finds the last one late: helps it on, and begins again. Who was late finds that done.
func TestWhoEntersHelpsOn(t *testing.T) {
	w := goTill(t, ask(t, impl.WldNew(), 0, op(impl.OpEnter, 0, 7)), 0, impl.PcSwing)
	if w.Arena.Last != 1 || !w.Hands[0].Done {
		t.Fatalf("the last one is %d", w.Arena.Last)
	}
	w = ask(t, w, 1, op(impl.OpEnter, 0, 8))
	w, way := wayOf(t, w, 1)
	wantInts(t, way, []int{1, 2, 3, 9, 10, 27, 28, 29, 27, 28, 30, 31, 15, 16}, "the way of who helps")
	if w.Arena.Last != 3 {
		t.Errorf("the last one is %d, want 3", w.Arena.Last)
	}
	w, way = wayOf(t, w, 0)
	wantInts(t, way, []int{31, 15, 16}, "the way of who was helped")
	if w.Arena.Last != 3 {
		t.Errorf("the last one is %d, and was 3", w.Arena.Last)
	}
	wantThere(t, w, impl.MapMap{}, nil, []int{7, 8})
}

func TestWhoEntersWhileAnotherOneDoes(t *testing.T) {
	w := goTill(t, ask(t, impl.WldNew(), 0, op(impl.OpEnter, 0, 7)), 0, impl.PcJoin)
	w = alone(t, w, 1, op(impl.OpEnter, 0, 8))
	w, way := wayOf(t, w, 0)
	wantInts(t, way, []int{30, 27, 28, 30, 31, 15, 16}, "the way of who begins again")
	wantThere(t, w, impl.MapMap{}, nil, []int{8, 7})
}

// Who leaves helps the last one on ahead of the first, so that the first never comes by it.
func TestWhoLeavesHelpsOn(t *testing.T) {
	w := goTill(t, ask(t, impl.WldNew(), 0, op(impl.OpEnter, 0, 7)), 0, impl.PcSwing)
	w = ask(t, w, 1, leaveOp)
	w, way := wayOf(t, w, 1)
	wantInts(t, way, []int{1, 2, 3, 32, 33, 34, 29, 32, 33, 34, 35, 36, 7, 15, 16}, "the way of who helps")
	wantAnswer(t, w, 1, leaveOp, yes(7))
	if w.Arena.First != 2 || w.Arena.Last != 2 {
		t.Errorf("the queue is from %d to %d", w.Arena.First, w.Arena.Last)
	}
	w, way = wayOf(t, w, 0)
	wantInts(t, way, []int{31, 15, 16}, "the way of who was helped")
	wantWorldOk(t, w, true, "helped on")
}

func TestWhoLeavesWhileAnotherOneDoes(t *testing.T) {
	w := alone(t, impl.WldNew(), 0, op(impl.OpEnter, 0, 7), op(impl.OpEnter, 0, 8))
	w = goTill(t, ask(t, w, 0, leaveOp), 0, impl.PcShift)
	w = goTill(t, ask(t, w, 2, frontOp), 2, impl.PcSee)
	w = alone(t, w, 1, leaveOp)
	wantAnswer(t, w, 1, leaveOp, yes(7))
	w, way := wayOf(t, w, 2)
	wantInts(t, way, []int{40, 32, 33, 35, 40, 15, 16}, "the way of who looks")
	wantAnswer(t, w, 2, frontOp, yes(8))
	w, way = wayOf(t, w, 0)
	wantInts(t, way, []int{36, 32, 33, 34, 35, 36, 7, 15, 16}, "the way of who begins again")
	wantAnswer(t, w, 0, leaveOp, yes(8))
	wantThere(t, w, impl.MapMap{}, nil, nil)
}

// Who counts looks a third time, if something was turned between the first and the second; its answer is so as of the end of the second.
func TestWhoCountsWhileAnotherOnePuts(t *testing.T) {
	count := op(impl.OpCount, 0)
	w := alone(t, impl.WldNew(), 0, op(impl.OpPut, 3, 30))
	w = ask(t, w, 1, count)
	for range 3 + 2 {
		w = impl.WldStep(w, 1)
	}
	if h := w.Hands[1]; h.Pc != impl.PcWalk || h.Mid != w.Clock || h.Last != "0:4:1;2:0:0;" {
		t.Fatalf("behind the first look hand 1 is %+v", h)
	}
	w = alone(t, w, 0, op(impl.OpPut, 5, 50))
	for range 3 {
		w = impl.WldStep(w, 1)
	}
	second := w.Clock
	if h := w.Hands[1]; h.Pc != impl.PcWalk || h.Done || h.Last != "0:4:1;2:6:1;3:0:0;" {
		t.Fatalf("behind the second look hand 1 is %+v", h)
	}
	w, way := wayOf(t, w, 1)
	wantInts(t, way, []int{37, 38, 38, 15, 16}, "the way of the third look")
	wantAnswer(t, w, 1, count, yes(2))
	if lastAnswer(w).Point != second {
		t.Errorf("that is so as of %d, want %d", lastAnswer(w).Point, second)
	}
}

// A key that is deleted, and put again at the same place, leaves words that count as turned.
func TestWhoCountsSeesThatAWordWasTurnedBack(t *testing.T) {
	w := goTill(t, ask(t, impl.WldNew(), 1, op(impl.OpCount, 0)), 1, impl.PcWalk)
	w = impl.WldStep(w, 1)
	w = alone(t, w, 0, op(impl.OpPut, 3, 30), op(impl.OpDel, 3))
	w = impl.WldStep(w, 1)
	if h := w.Hands[1]; h.Pc != impl.PcWalk || h.Done || h.Last != "0:0:2;" {
		t.Errorf("behind the second look hand 1 is %+v", h)
	}
}

// The epoch goes on between: who has not pinned yet looks again.
func TestEpochGoesOnAheadOfThePin(t *testing.T) {
	w := goTill(t, ask(t, impl.WldNew(), 0, getOp), 0, impl.PcPin)
	w = alone(t, w, 1, clearOp)
	w, way := wayOf(t, w, 0)
	wantInts(t, way, []int{2, 3, 1, 2, 3, 4, 5, 15, 16}, "the way of who pins again")
	if w.Pool.Epoch != 1 || w.Pool.Pins[0] != 0 {
		t.Errorf("the pool is %v", w.Pool)
	}
}

// While a hand is pinned the epoch goes on by one at most, and what it may hold is not given back.
func TestEpochWaitsForWhoIsPinned(t *testing.T) {
	w := alone(t, impl.WldNew(), 0, op(impl.OpPut, 3, 30))
	w = goTill(t, ask(t, w, 0, op(impl.OpGet, 3)), 0, impl.PcKey)
	w = alone(t, w, 1, op(impl.OpDel, 3))
	for range 4 {
		w = alone(t, w, 1, clearOp)
	}
	if w.Pool.Epoch != 1 || !w.Arena.Nodes[2].Used || !slices.Equal(w.Pool.Limbo[1], olds(2, 0)) {
		t.Fatalf("the epoch did not wait: %+v", w.Pool)
	}
	w, _ = wayOf(t, w, 0)
	wantAnswer(t, w, 0, op(impl.OpGet, 3), yes(30))
	w = alone(t, w, 1, clearOp)
	if w.Pool.Epoch != 2 || w.Arena.Nodes[2].Used || len(impl.PolOut(w.Pool)) != 0 {
		t.Errorf("the place did not come back: %+v", w)
	}
}

// Of two who see the same epoch one turns it.
func TestTwoWhoAdvanceTheEpoch(t *testing.T) {
	w := goTill(t, ask(t, impl.WldNew(), 0, clearOp), 0, impl.PcAdvance)
	w = goTill(t, ask(t, w, 1, clearOp), 1, impl.PcAdvance)
	w = impl.WldStep(impl.WldStep(w, 0), 1)
	if w.Pool.Epoch != 1 || w.Hands[0].Pc != impl.PcLook || w.Hands[1].Pc != impl.PcLook {
		t.Errorf("the epoch is %d", w.Pool.Epoch)
	}
}

func TestNoRoomIsTold(t *testing.T) {
	w := impl.WldNew()
	for key := range 3 {
		w = alone(t, w, 0, op(impl.OpPut, key, key), op(impl.OpPush, 0, key))
	}
	w = alone(t, w, 0, op(impl.OpEnter, 0, 5), op(impl.OpEnter, 0, 6))
	for _, o := range []impl.OpOp{op(impl.OpPut, 9, 9), pushOp, enterOp} {
		is := alone(t, w, 1, o)
		wantAnswer(t, is, 1, o, full)
		if !sameArena(is.Arena, w.Arena) {
			t.Errorf("of %v: places are %v, and were %v", o, is.Arena, w.Arena)
		}
	}
	is := alone(t, w, 1, op(impl.OpPut, 2, 9))
	wantAnswer(t, is, 1, op(impl.OpPut, 2, 9), no)
	w = alone(t, w, 1, leaveOp, clearOp, clearOp, pushOp)
	wantAnswer(t, w, 1, pushOp, yes(0))
	if w.Arena.Nodes[1].Gen != 2 || w.Arena.Top != 1 {
		t.Errorf("the place was not taken again: %v", w.Arena)
	}
}

// Behind so many answers none is noted any more, and hands go on all the same.
func TestLogIsFull(t *testing.T) {
	w := impl.WldNew()
	for n := range impl.LogMost + 3 {
		w = alone(t, w, n%impl.PolHands, popOp)
		if len(w.Log) != min(n+1, 400) {
			t.Fatalf("behind %d answers %d are noted", n+1, len(w.Log))
		}
	}
	wantWorldOk(t, w, true, "the log is full")
	w = alone(t, w, 0, op(impl.OpPush, 0, 7))
	wantThere(t, w, impl.MapMap{}, []int{7}, nil)
	wantAnswer(t, w, 0, popOp, no)
}
