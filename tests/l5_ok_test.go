package tests

import (
	"math"
	"slices"
	"strings"
	"testing"

	"loop.example/tuggers/impl"
)

// everyPc is where a hand is that is not idle.
func everyPc() []int {
	return pcs(1, 40)
}

// eachBusyWorld hands out a busy world for each Pc and kind of what is asked.
func eachBusyWorld(do func(pc int, w impl.WldWorld)) {
	for _, pc := range everyPc() {
		for _, o := range oneOfEachKind() {
			do(pc, busyWorld(pc, o))
		}
	}
}

// wantHandOk turns the acting hand, at each Pc, and asks whether the world is ok.
func wantHandOk(t *testing.T, name string, how func(*impl.HndHand), want func(pc int) bool) {
	t.Helper()
	for _, pc := range everyPc() {
		w := busyWorld(pc, putOp)
		how(&w.Hands[acting])
		wantWorldOk(t, w, want(pc), name, "at", pc)
	}
}

func always(int) bool { return true }

func never(int) bool { return false }

func just(where []int) func(int) bool {
	return func(pc int) bool { return slices.Contains(where, pc) }
}

func but(where []int) func(int) bool {
	return func(pc int) bool { return !slices.Contains(where, pc) }
}

func TestBoundsOfTheWorld(t *testing.T) {
	if impl.TrcMost != 200 || impl.LogMost != 400 || impl.ClkMost != 1000000 {
		t.Error(impl.TrcMost, impl.LogMost, impl.ClkMost)
	}
}

func TestNewWorld(t *testing.T) {
	w := impl.WldNew()
	want := impl.WldWorld{Arena: impl.ArnNew(), Pool: impl.PolNew(), Hands: []impl.HndHand{{}, {}, {}}}
	wantWorld(t, w, want, "new")
	wantWorldOk(t, w, true, "new")
}

func TestBusyWorldsAreOk(t *testing.T) {
	eachBusyWorld(func(pc int, w impl.WldWorld) {
		wantWorldOk(t, w, true, pc)
		w.Hands[acting].Done = true
		wantWorldOk(t, w, true, pc, "done")
	})
}

func TestNothingIsNoWorld(t *testing.T) {
	wantWorldOk(t, impl.WldWorld{}, false, "nothing")
	w := impl.WldNew()
	wantWorldOk(t, impl.WldWorld{Pool: w.Pool, Hands: w.Hands}, false, "no places")
	wantWorldOk(t, impl.WldWorld{Arena: w.Arena, Hands: w.Hands}, false, "no pool")
	wantWorldOk(t, impl.WldWorld{Arena: w.Arena, Pool: w.Pool}, false, "no hands")
}

func TestWorldOfPlaces(t *testing.T) {
	for name, a := range anyArenas() {
		w := impl.WldNew()
		w.Arena = a
		wantWorldOk(t, w, impl.ArnOk(a), name)
	}
}

// awayFrom has a queue of none at a place that was not taken out, and all others in use; none, if all were taken out.
func awayFrom(out []int) (impl.ArnArena, bool) {
	for at := 1; at <= impl.ArnSize; at++ {
		if !slices.Contains(out, at) {
			a := laid(nil, nil, []int{at})
			fill(a.Nodes)
			return a, true
		}
	}
	return impl.ArnNew(), false
}

func TestWorldOfPools(t *testing.T) {
	for name, p := range anyPools() {
		w := impl.WldNew()
		room := false
		w.Arena, room = awayFrom(impl.PolOut(p))
		w.Pool = p
		wantWorldOk(t, w, impl.PolOk(p) && room, name)
	}
}

func TestWorldHasSoManyHands(t *testing.T) {
	for size := range 10 {
		w := impl.WldNew()
		w.Hands = make([]impl.HndHand, size)
		wantWorldOk(t, w, size == 3, size)
	}
}

func TestWorldOfTheClock(t *testing.T) {
	for _, clock := range []int{math.MinInt, -1, 0, 1, 999999, 1000000, 1000001, math.MaxInt} {
		w := impl.WldNew()
		w.Clock = clock
		wantWorldOk(t, w, clock >= 0 && clock <= 1000000, "the clock", clock)
	}
}

func TestWorldOfSoManyAnswers(t *testing.T) {
	for _, size := range []int{0, 1, 399, 400, 401, 2000} {
		w := impl.WldNew()
		w.Log = slices.Repeat([]impl.LogRec{{Op: popOp, Res: no}}, size)
		wantWorldOk(t, w, size <= 400, "answers", size)
	}
}

func TestWhatWasTakenOutIsInUse(t *testing.T) {
	for k := range impl.PolHands {
		for _, used := range []bool{true, false} {
			w := impl.WldNew()
			w.Arena.Nodes[4].Used, w.Arena.Nodes[5].Used = true, used
			w.Pool.Limbo[k] = olds(4, 0, 5, 0)
			wantWorldOk(t, w, used, "taken out by", k, "in use", used)
		}
	}
}

func TestWhatWasTakenOutIsNowhere(t *testing.T) {
	// Places 4 and 2 are the map's, 8 and 1 the stack's, 6 and 5 the queue's.
	for at := 1; at <= impl.ArnSize; at++ {
		for k := range impl.PolHands {
			w := impl.WldNew()
			w.Arena = busyArena()
			w.Pool.Limbo[k] = olds(at, 0)
			wantWorldOk(t, w, at == 3 || at == 7 || at == 9, "taken out", at, "by", k)
		}
	}
}

// A marked place is in the map till somebody takes it out of the way.
func TestWhatIsMarkedIsNotTakenOutYet(t *testing.T) {
	w := impl.WldNew()
	w.Arena = marked(busyArena(), 2)
	wantWorldOk(t, w, true, "marked")
	w.Pool.Limbo[0] = olds(2, 0)
	wantWorldOk(t, w, false, "marked, and taken out")
}

// wantLogOk puts an answer ahead of, between and behind others.
func wantLogOk(t *testing.T, r impl.LogRec, want bool, of ...any) {
	t.Helper()
	for at := range 3 {
		w := busyWorld(impl.PcKey, getOp)
		w.Log = slices.Insert(w.Log, at, r)
		wantWorldOk(t, w, want, of, r, "at", at)
	}
}

func TestAnswersHaveAHand(t *testing.T) {
	for _, k := range []int{math.MinInt, -1, 0, 1, 2, 3, 4, math.MaxInt} {
		wantLogOk(t, impl.LogRec{Hand: k, Op: popOp, Res: no}, k >= 0 && k <= 2, "the hand")
	}
}

func TestAnswersHaveWhatMayBeAsked(t *testing.T) {
	for _, o := range ops() {
		wantLogOk(t, impl.LogRec{Op: o, Res: no}, true)
	}
	for _, o := range wrongOps() {
		wantLogOk(t, impl.LogRec{Op: o, Res: no}, false)
	}
}

// answers are all kinds of answers, with the bounds of their values.
func answers() []impl.ResRes {
	return []impl.ResRes{no, full, yes(0), yes(1), yes(998), yes(999)}
}

// noAnswers are neither an answer nor nothing.
func noAnswers() []impl.ResRes {
	wrong := []impl.ResRes{yes(-1), yes(1000), yes(math.MinInt), yes(math.MaxInt), {Val: 1}, {Val: -1}}
	for _, code := range []int{math.MinInt, -1, 4, 5, math.MaxInt} {
		wrong = append(wrong, impl.ResRes{Code: code}, impl.ResRes{Code: code, Val: 1})
	}
	for _, code := range []int{impl.ResNo, impl.ResFull} {
		wrong = append(wrong, impl.ResRes{Code: code, Val: 1}, impl.ResRes{Code: code, Val: -1}, impl.ResRes{Code: code, Val: 999})
	}
	return wrong
}

func TestAnswersHaveAnAnswer(t *testing.T) {
	for _, res := range answers() {
		wantLogOk(t, impl.LogRec{Op: popOp, Res: res}, true)
	}
	for _, res := range append(noAnswers(), nothing) {
		wantLogOk(t, impl.LogRec{Op: popOp, Res: res}, false)
	}
}

func TestAnswersHaveTimesInOrder(t *testing.T) {
	times := []int{math.MinInt, -1, 0, 1, clockThen - 1, clockThen, clockThen + 1, math.MaxInt}
	for _, begin := range times {
		for _, point := range times {
			for _, end := range times {
				want := 0 <= begin && begin <= point && point <= end && end <= clockThen
				wantLogOk(t, impl.LogRec{Op: popOp, Res: no, Begin: begin, Point: point, End: end}, want)
			}
		}
	}
}

func TestIdleHandsHaveNothingElse(t *testing.T) {
	for name, h := range nearlyIdle() {
		for k := range impl.PolHands {
			w := impl.WldNew()
			w.Hands[k] = h
			wantWorldOk(t, w, false, name, k)
		}
	}
	for _, o := range oneOfEachKind() {
		w := busyWorld(impl.PcKey, o)
		w.Hands[acting].Pc = impl.PcIdle
		wantWorldOk(t, w, false, "nothing is to be left of", o)
	}
}

func TestHandsAreSomewhere(t *testing.T) {
	for _, pc := range noPcs() {
		for k := range impl.PolHands {
			w := impl.WldNew()
			w.Hands[k] = impl.HndHand{Pc: pc, Op: popOp}
			wantWorldOk(t, w, false, "at", pc)
		}
	}
}

// Each hand is looked at, by its own pin.
func TestEachHandIsLookedAt(t *testing.T) {
	for k := range impl.PolHands {
		for _, pc := range everyPc() {
			w := impl.WldNew()
			w.Arena, w.Clock = busyArena(), clockThen
			w.Pool = pool(epochThen, []int{0, 0, 0}, nil, nil, nil)
			w.Hands[k] = busyHandAt(pc, delOp)
			if slices.Contains(pinnedPcs, pc) {
				wantWorldOk(t, w, false, "hand", k, "at", pc, "is not pinned")
				w.Pool.Pins[k] = epochThen + 1
			}
			wantWorldOk(t, w, true, "hand", k, "at", pc)
			w.Hands[k].Begin = -1
			wantWorldOk(t, w, false, "hand", k, "at", pc)
		}
	}
}

func TestHandsWereAskedWhatMayBeAsked(t *testing.T) {
	for _, o := range ops() {
		wantHandOk(t, "Op", func(h *impl.HndHand) { h.Op = o }, always)
	}
	for _, o := range wrongOps() {
		wantHandOk(t, "Op", func(h *impl.HndHand) { h.Op = o }, never)
	}
}

// wantNumberOk tries numbers about the bounds of what one field may be.
func wantNumberOk(t *testing.T, name string, field func(*impl.HndHand) *int, least, most int) {
	t.Helper()
	for _, n := range []int{math.MinInt, least - 1, least, least + 1, most - 1, most, most + 1, math.MaxInt} {
		want := never
		if n >= least && n <= most {
			want = always
		}
		wantHandOk(t, name, func(h *impl.HndHand) { *field(h) = n }, want)
	}
}

func TestNumbersOfHands(t *testing.T) {
	wantNumberOk(t, "Begin", func(h *impl.HndHand) *int { return &h.Begin }, 0, clockThen)
	wantNumberOk(t, "Point", func(h *impl.HndHand) *int { return &h.Point }, 0, clockThen)
	wantNumberOk(t, "Read", func(h *impl.HndHand) *int { return &h.Read }, 0, clockThen)
	wantNumberOk(t, "Mid", func(h *impl.HndHand) *int { return &h.Mid }, 0, clockThen)
	wantNumberOk(t, "Seen", func(h *impl.HndHand) *int { return &h.Seen }, 0, epochThen)
}

func TestScanOfHands(t *testing.T) {
	for _, scan := range []int{math.MinInt, -1, 4, math.MaxInt} {
		wantHandOk(t, "Scan beyond", func(h *impl.HndHand) { h.Scan = scan }, never)
	}
	for scan := range impl.PolHands {
		wantHandOk(t, "Scan", func(h *impl.HndHand) { h.Scan = scan }, always)
	}
	wantHandOk(t, "Scan behind the last hand", func(h *impl.HndHand) { h.Scan = 3 }, but([]int{impl.PcScan}))
}

func TestNumOfHands(t *testing.T) {
	for _, num := range []int{math.MinInt, -1, 10, math.MaxInt} {
		wantHandOk(t, "Num beyond", func(h *impl.HndHand) { h.Num = num }, never)
	}
	for num := range impl.ArnSize {
		wantHandOk(t, "Num", func(h *impl.HndHand) { h.Num = num }, always)
	}
	wantHandOk(t, "Num of all places", func(h *impl.HndHand) { h.Num = 9 }, but([]int{impl.PcCount}))
}

func TestTextsOfHands(t *testing.T) {
	for _, size := range []int{0, 1, 180, 181, 199, 200, 201, 10000} {
		text := strings.Repeat("\x00", size)
		want := always
		if size > 200 {
			want = never
		}
		wantHandOk(t, "Last", func(h *impl.HndHand) { h.Last = text }, want)
		if size > 180 && size <= 200 {
			want = but([]int{impl.PcCount})
		}
		wantHandOk(t, "Trace", func(h *impl.HndHand) { h.Trace = text }, want)
	}
}

func TestAnswersOfHands(t *testing.T) {
	for _, res := range answers() {
		wantHandOk(t, "Res", func(h *impl.HndHand) { h.Res = res }, always)
	}
	for _, res := range noAnswers() {
		wantHandOk(t, "Res that is none", func(h *impl.HndHand) { h.Res = res }, never)
	}
	wantHandOk(t, "Res that is nothing", func(h *impl.HndHand) { h.Res = nothing }, but([]int{impl.PcEnd}))
	wantHandOk(t, "Done", func(h *impl.HndHand) { h.Done = true }, always)
	wantHandOk(t, "not Done", func(h *impl.HndHand) { h.Done = false }, but([]int{impl.PcEnd}))
}

func TestWordsOfHands(t *testing.T) {
	for _, word := range []int{math.MinInt, -2, -1, 20, 21, math.MaxInt} {
		wantHandOk(t, "Succ beyond", func(h *impl.HndHand) { h.Succ = word }, never)
	}
	for word := 0; word <= 2*impl.ArnSize+1; word++ {
		want := func(pc int) bool {
			if word%2 == 1 {
				return !slices.Contains(plainPcs, pc)
			}
			return !slices.Contains(markedPcs, pc) && (word != 0 || pc != impl.PcSwing)
		}
		wantHandOk(t, "Succ", func(h *impl.HndHand) { h.Succ = word }, want)
	}
}

func TestPinsOfHands(t *testing.T) {
	for _, pc := range everyPc() {
		for pin := range epochThen + 2 {
			w := busyWorld(pc, putOp)
			w.Pool.Pins[acting] = pin
			want := true
			if slices.Contains(pinnedPcs, pc) {
				want = pin == epochThen || pin == epochThen+1
			} else if slices.Contains(unpinnedPcs, pc) {
				want = pin == 0
			}
			wantWorldOk(t, w, want, "pin", pin, "at", pc)
		}
	}
}

// Nobody asks whether who is idle is pinned.
func TestPinsOfIdleHands(t *testing.T) {
	w := impl.WldNew()
	w.Pool.Epoch, w.Pool.Pins = 3, []int{0, 1, 4}
	wantWorldOk(t, w, true, "pinned, and idle")
}

// wrongRefs are places that are not in use as they were seen; in the world that they are held in place 1 is not in use.
func wrongRefs() []impl.HndRef {
	return []impl.HndRef{
		{At: 4, Gen: 13}, {At: 4, Gen: 15}, {At: 4, Gen: 0}, {At: 4, Gen: -14}, {At: 1, Gen: 11}, {At: 1, Gen: 0},
		{At: 9, Gen: 20}, {At: 9, Gen: 0},
	}
}

// noPlaces are places below 0, and past the end, each with a Gen, and with none.
func noPlaces() []impl.HndRef {
	return []impl.HndRef{
		{At: -1}, {At: -1, Gen: 10}, {At: -1, Gen: -1}, {At: -4, Gen: 14}, {At: math.MinInt}, {At: math.MinInt, Gen: 7},
		{At: 10}, {At: 10, Gen: 20}, {At: 14, Gen: 14}, {At: math.MaxInt}, {At: math.MaxInt, Gen: 7},
	}
}

// noRefs are all ways to hold none.
func noRefs() []impl.HndRef {
	return append(noPlaces(), impl.HndRef{}, impl.HndRef{Gen: 7}, impl.HndRef{Gen: -7})
}

// refWorld has place 1 in use no more.
func refWorld(pc int, how func(*impl.HndHand)) impl.WldWorld {
	w := busyWorld(pc, putOp)
	w.Arena.Nodes[8].Word = 0
	w.Arena.Nodes[1].Used = false
	how(&w.Hands[acting])
	return w
}

// wantRefOk tries places that are not as they were seen, and all that are.
func wantRefOk(t *testing.T, name string, field func(*impl.HndHand) *impl.HndRef, wrong, right func(int) bool) {
	t.Helper()
	for _, pc := range everyPc() {
		for _, r := range wrongRefs() {
			w := refWorld(pc, func(h *impl.HndHand) { *field(h) = r })
			wantWorldOk(t, w, wrong(pc), name, r, "at", pc)
		}
		for at := 2; at <= impl.ArnSize; at++ {
			w := refWorld(pc, func(h *impl.HndHand) { *field(h) = ref(at) })
			wantWorldOk(t, w, right(pc), name, ref(at), "at", pc)
		}
	}
}

func predOf(h *impl.HndHand) *impl.HndRef { return &h.Pred }
func currOf(h *impl.HndHand) *impl.HndRef { return &h.Curr }
func ownOf(h *impl.HndHand) *impl.HndRef  { return &h.Own }
func oldOf(h *impl.HndHand) *impl.HndRef  { return &h.Old }

func TestPlacesThatHandsHold(t *testing.T) {
	wantRefOk(t, "Pred", predOf, but(predSeenPcs), always)
	wantRefOk(t, "Curr", currOf, but(currSeenPcs), always)
	wantRefOk(t, "Own", ownOf, never, but(noOwnPcs))
	wantRefOk(t, "Old", oldOf, never, just(oldPcs))
}

// The head can be Pred where a hand goes along the map, but is none where it is at the queue.
func TestHandsWithTheHeadAhead(t *testing.T) {
	wantHandOk(t, "Pred is the head", func(h *impl.HndHand) { h.Pred = impl.HndRef{} }, but(predPcs))
	for _, gen := range []int{-1, 1, 10} {
		wantHandOk(t, "the head, taken", func(h *impl.HndHand) { h.Pred = impl.HndRef{Gen: gen} }, but(predSeenPcs))
	}
}

// A hand goes from Pred, which is at least the head: it can't be none.
func TestHandsWithNoneAhead(t *testing.T) {
	for _, none := range noPlaces() {
		wantHandOk(t, "no Pred", func(h *impl.HndHand) { h.Pred = none }, but(predSeenPcs))
	}
}

func TestHandsThatHoldNone(t *testing.T) {
	for _, none := range noRefs() {
		wantHandOk(t, "no Curr", func(h *impl.HndHand) { h.Curr = none }, but(currPcs))
		wantHandOk(t, "no Own", func(h *impl.HndHand) { h.Own = none }, but(ownPcs))
		wantHandOk(t, "no Old", func(h *impl.HndHand) { h.Old = none }, but(oldPcs))
	}
}

// Where a hand has an Old it may have an Own too.
func TestHandsThatHoldBoth(t *testing.T) {
	both := func(h *impl.HndHand) { h.Own, h.Old = ref(3), ref(9) }
	wantHandOk(t, "Own and Old", both, just([]int{impl.PcRetire}))
}

func TestLookingAtWorldsWritesNothing(t *testing.T) {
	eachBusyWorld(func(pc int, w impl.WldWorld) {
		argument := roomyWorld(w)
		was := wholeWorld(argument)
		if !impl.WldOk(argument) {
			t.Errorf("at %d: ok hangs on spare room", pc)
		}
		wantWorld(t, wholeWorld(argument), was, "a look at", pc)
	})
}
