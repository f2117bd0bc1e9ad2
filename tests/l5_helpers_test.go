package tests

import (
	"slices"
	"testing"

	"loop.example/tuggers/impl"
)

// A busy world's clock is clockThen; behind a step of it it is now.
const (
	clockThen = 50
	now       = 51
	epochThen = 5
)

// acting is the hand of a busy world that does the steps.
const acting = 1

// ref is a place of a busy world, as it is seen there.
func ref(at int) impl.HndRef {
	if at == 0 {
		return impl.HndRef{}
	}
	return impl.HndRef{At: at, Gen: at + 10}
}

// busyArena has the keys 10 and 20 at places 4 and 2, the stack at 8 and 1, the queue at 6 (that ahead of its values) and 5; 3, 7 and 9 are in use, and nowhere.
func busyArena() impl.ArnArena {
	a := laid([]int{4, 2}, []int{8, 1}, []int{6, 5})
	for at := range a.Nodes {
		a.Nodes[at].Used = true
		a.Nodes[at].Gen = ref(at).Gen
		a.Nodes[at].Ver = at + 20
	}
	return a
}

// The kinds of what is asked, one of each; in a busy world key 20 is there.
var (
	getOp   = op(impl.OpGet, 20)
	putOp   = op(impl.OpPut, 20, 77)
	delOp   = op(impl.OpDel, 20)
	clearOp = op(impl.OpClear)
	pushOp  = op(impl.OpPush, 0, 78)
	popOp   = op(impl.OpPop)
	enterOp = op(impl.OpEnter, 0, 79)
	leaveOp = op(impl.OpLeave)
	nextOp  = op(impl.OpNext, 20)
	countOp = op(impl.OpCount, 20)
	topOp   = op(impl.OpTop)
	frontOp = op(impl.OpFront)
)

func oneOfEachKind() []impl.OpOp {
	return []impl.OpOp{getOp, putOp, delOp, clearOp, pushOp, popOp, enterOp, leaveOp, nextOp, countOp, topOp, frontOp}
}

// kindsBut are all kinds but some.
func kindsBut(but ...impl.OpOp) []impl.OpOp {
	return slices.DeleteFunc(oneOfEachKind(), func(o impl.OpOp) bool { return slices.Contains(but, o) })
}

// pcs are all numbers from one to another one, and so on.
func pcs(fromAndTo ...int) []int {
	var all []int
	for i := 0; i < len(fromAndTo); i += 2 {
		for pc := fromAndTo[i]; pc <= fromAndTo[i+1]; pc++ {
			all = append(all, pc)
		}
	}
	return all
}

// Where hands have what, by the document's numbers.
var (
	ownPcs      = []int{10, 11, 14, 23, 24, 30}
	noOwnPcs    = []int{9, 15, 16, 17, 18, 19, 20, 21, 37, 38, 39, 40}
	oldPcs      = []int{7}
	predSeenPcs = pcs(5, 13, 34, 36, 40, 40)
	predPcs     = []int{34, 35, 36, 40}
	currSeenPcs = pcs(5, 13, 34, 36, 40, 40, 23, 26, 28, 31, 33, 36, 38, 40)
	currPcs     = []int{6, 8, 12, 13, 30, 25, 26, 28, 29, 33, 34, 35, 36, 38, 39, 40, 31}
	markedPcs   = []int{6}
	plainPcs    = []int{8, 12, 13, 23, 24, 30, 25, 26, 28, 29, 33, 34, 35, 36, 31}
	pinnedPcs   = pcs(4, 15, 22, 40)
	unpinnedPcs = pcs(16, 21)
)

// busyHandAt is a hand that may be there, in a busy world, with as much in its fields as it may have.
func busyHandAt(pc int, o impl.OpOp) impl.HndHand {
	h := impl.HndHand{
		Pc: pc, Op: o, Begin: 3, Pred: ref(4), Curr: ref(2), Succ: 10, Read: 21, Seen: epochThen, Scan: 1,
		Res: yes(9), Point: 22, Trace: "0:8:1;", Last: "0:6:2;", Mid: 23, Num: 1,
	}
	if slices.Contains(markedPcs, pc) {
		h.Succ = 11
	}
	if slices.Contains(ownPcs, pc) {
		h.Own = ref(3)
	}
	if slices.Contains(oldPcs, pc) {
		h.Old = ref(9)
	}
	if pc == impl.PcEnd {
		h.Done = true
	}
	return h
}

// busyWorld has the acting hand there, and two others on their way; place 7 was taken out by the acting one.
func busyWorld(pc int, o impl.OpOp) impl.WldWorld {
	w := impl.WldWorld{Arena: busyArena(), Clock: clockThen}
	w.Pool = pool(epochThen, []int{5, 6, 0}, nil, olds(7, 2), nil)
	if slices.Contains(unpinnedPcs, pc) {
		w.Pool.Pins[acting] = 0
	}
	w.Hands = []impl.HndHand{busyHandAt(impl.PcKey, getOp), busyHandAt(pc, o), busyHandAt(impl.PcScan, clearOp)}
	w.Log = []impl.LogRec{
		{Hand: 2, Op: popOp, Res: no, Begin: 0, Point: 5, End: 9},
		{Hand: 0, Op: putOp, Res: yes(0), Begin: 7, Point: 7, End: 7},
	}
	return w
}

// turnedWorld is a world with something done to a copy of it.
func turnedWorld(w impl.WldWorld, how func(*impl.WldWorld)) impl.WldWorld {
	w = cloneWorld(w)
	how(&w)
	return w
}

// cloneWorld shares no memory with what it is of.
func cloneWorld(w impl.WldWorld) impl.WldWorld {
	w.Arena.Nodes = slices.Clone(w.Arena.Nodes)
	w.Pool = clonePool(w.Pool)
	w.Hands = slices.Clone(w.Hands)
	w.Log = slices.Clone(w.Log)
	return w
}

// wantWorld tells just those parts that differ, as a world is long; an empty list and none are the same.
func wantWorld(t *testing.T, got, want impl.WldWorld, of ...any) {
	t.Helper()
	if !sameArena(got.Arena, want.Arena) {
		t.Errorf("of %v: places\n got %+v\nwant %+v", of, got.Arena, want.Arena)
	}
	if !samePool(got.Pool, want.Pool) {
		t.Errorf("of %v: the pool\n got %+v\nwant %+v", of, got.Pool, want.Pool)
	}
	if !slices.Equal(got.Hands, want.Hands) {
		t.Errorf("of %v: hands\n got %+v\nwant %+v", of, got.Hands, want.Hands)
	}
	if got.Clock != want.Clock {
		t.Errorf("of %v: the clock is %d, want %d", of, got.Clock, want.Clock)
	}
	if !slices.Equal(got.Log, want.Log) {
		t.Errorf("of %v: the log\n got %+v\nwant %+v", of, got.Log, want.Log)
	}
}

func wantWorldOk(t *testing.T, w impl.WldWorld, want bool, of ...any) {
	t.Helper()
	if got := impl.WldOk(w); got != want {
		t.Errorf("ok is %v, want %v, of %v", got, want, of)
	}
}

// ask asks a hand something, which it must be idle for.
func ask(t *testing.T, w impl.WldWorld, k int, o impl.OpOp) impl.WldWorld {
	t.Helper()
	got := impl.WldCall(w, k, o)
	if len(got.Hands) != impl.PolHands || got.Hands[k].Op != o {
		t.Fatalf("hand %d was not asked %v, of %+v", k, o, w)
	}
	return got
}

// goTill lets a hand go on until it is somewhere, which it must come to.
func goTill(t *testing.T, w impl.WldWorld, k int, pc int) impl.WldWorld {
	t.Helper()
	for range 200 {
		if w.Hands[k].Pc == pc {
			return w
		}
		w = impl.WldStep(w, k)
		if len(w.Hands) != impl.PolHands {
			t.Fatalf("hand %d came into a world that is not ok", k)
		}
	}
	t.Fatalf("hand %d does not come to %d, of %+v", k, pc, w)
	return w
}

// alone lets a hand be asked something, and go on to its end.
func alone(t *testing.T, w impl.WldWorld, k int, asked ...impl.OpOp) impl.WldWorld {
	t.Helper()
	for _, o := range asked {
		w = goTill(t, ask(t, w, k, o), k, impl.PcIdle)
	}
	return w
}

// lastAnswer is what was answered last.
func lastAnswer(w impl.WldWorld) impl.LogRec {
	if len(w.Log) == 0 {
		return impl.LogRec{}
	}
	return w.Log[len(w.Log)-1]
}

func wantAnswer(t *testing.T, w impl.WldWorld, k int, o impl.OpOp, res impl.ResRes) {
	t.Helper()
	if got := lastAnswer(w); got.Hand != k || got.Op != o || got.Res != res {
		t.Errorf("the last answer is %v, want hand %d, %v: %v", got, k, o, res)
	}
}

// wantThere tells what is in map, stack and queue.
func wantThere(t *testing.T, w impl.WldWorld, m impl.MapMap, stack, queue []int) {
	t.Helper()
	if got := impl.ArnMap(w.Arena); !sameMap(got, m) {
		t.Errorf("the map is %v, want %v", got, m)
	}
	wantInts(t, impl.ArnStack(w.Arena), stack, "the stack")
	wantInts(t, impl.ArnQueue(w.Arena), queue, "the queue")
}
