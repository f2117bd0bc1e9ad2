package tests

import (
	"math"
	"slices"
	"testing"

	"loop.example/tuggers/impl"
)

// noRoomRecs are of who was told that there is no room, at some Point.
func noRoomRecs(point int) []impl.LogRec {
	return []impl.LogRec{
		rec(point, op(impl.OpPut, 5, 7), full),
		rec(point, op(impl.OpPush, 0, 7), full),
		rec(point, op(impl.OpEnter, 0, 7), full),
	}
}

// otherAnswers are all answers but that one, and what is none.
func otherAnswers(res impl.ResRes) []impl.ResRes {
	all := []impl.ResRes{no, full, yes(0), yes(1), yes(impl.ValMax), yes(res.Val + 1), yes(res.Val - 1), {Code: 4}, {Code: -1}, {Code: impl.ResNo, Val: 1}, {Val: res.Val}}
	all = append(all, impl.ResRes{Code: res.Code, Val: res.Val + 1})
	return slices.DeleteFunc(all, func(r impl.ResRes) bool { return r == res })
}

// P36

func TestRunOfNone(t *testing.T) {
	wantRun(t, nil, impl.LinState{}, true)
	wantRun(t, []impl.LogRec{}, impl.LinState{}, true)
}

func TestRunOfEachKind(t *testing.T) {
	log := told(op(impl.OpPut, 3, 7), op(impl.OpPut, 3, 8), op(impl.OpPut, 5, 9), op(impl.OpGet, 3), op(impl.OpDel, 3), op(impl.OpGet, 3),
		op(impl.OpPush, 0, 1), op(impl.OpPush, 0, 2), popOp, op(impl.OpEnter, 0, 3), op(impl.OpEnter, 0, 4), leaveOp, clearOp,
		op(impl.OpNext, 0), op(impl.OpCount, 0), topOp, frontOp)
	want := []impl.ResRes{yes(0), no, yes(0), yes(7), yes(7), no, yes(0), yes(0), yes(2), yes(0), yes(0), yes(3), yes(0), yes(5), yes(1), yes(1), yes(4)}
	for at, res := range want {
		wantRes(t, log[at].Res, res, log[at])
	}
	wantRun(t, log, stateOf(entries(5, 9), []int{1}, []int{4}), true)
	for at := range log {
		want, _ := plainRun(log[:at])
		wantRun(t, log[:at], want, true, at)
	}
}

// Each by each, from nothing on: what holds of LinRun by LinApply.
func TestRunIsApplyOneByOne(t *testing.T) {
	for n := range 64 {
		log := toldByChance(n, 60)
		s := impl.LinState{}
		for _, r := range plainSort(log) {
			if !slices.Contains(placeKinds, r.Op.Kind) || r.Res != full {
				s, _ = impl.LinApply(s, r.Op)
			}
		}
		wantRun(t, log, s, true, n)
		want, same := plainRun(log)
		wantRun(t, log, want, same, n)
	}
}

// As far as it came: the first that is another one turns nothing, nor does what is behind it.
func TestRunUpToAnAnswerThatIsAnotherOne(t *testing.T) {
	for n := range 32 {
		log := toldByChance(n, 40)
		for at, r := range log {
			var ahead []impl.LogRec
			for _, other := range log {
				if other.Point < r.Point {
					ahead = append(ahead, other)
				}
			}
			want, _ := plainRun(ahead)
			for _, res := range otherAnswers(r.Res) {
				if res.Code == impl.ResFull && slices.Contains(placeKinds, r.Op.Kind) {
					continue
				}
				broken := slices.Clone(log)
				broken[at].Res = res
				wantRun(t, broken, want, false, n, at)
			}
		}
	}
}

func TestRunUpToTheFirstOfTwoThatAreOthers(t *testing.T) {
	log := told(op(impl.OpPush, 0, 1), op(impl.OpPush, 0, 2), popOp, op(impl.OpPush, 0, 3))
	log[2].Res = no
	wantRun(t, log, stateOf(impl.MapMap{}, []int{2, 1}, nil), false)
	log[1].Res = no
	wantRun(t, log, stateOf(impl.MapMap{}, []int{1}, nil), false)
	log[0].Res = no
	wantRun(t, log, impl.LinState{}, false)
}

func TestRunGoesByPoint(t *testing.T) {
	put, get := rec(5, op(impl.OpPut, 3, 7), yes(0)), rec(9, op(impl.OpGet, 3), yes(7))
	want := stateOf(entries(3, 7), nil, nil)
	wantRun(t, []impl.LogRec{put, get}, want, true)
	wantRun(t, []impl.LogRec{get, put}, want, true, "the other way")
	get.Point = 4
	wantRun(t, []impl.LogRec{put, get}, impl.LinState{}, false, "ahead of it")
	put.Point, get.Point = math.MinInt, math.MaxInt
	wantRun(t, []impl.LogRec{get, put}, want, true, "at the bounds")
	// Of those at once that which stands ahead comes first.
	put.Point, get.Point = 4, 4
	wantRun(t, []impl.LogRec{put, get}, want, true, "at once")
	wantRun(t, []impl.LogRec{get, put}, impl.LinState{}, false, "at once, the other way")
}

// Begin, End and who it was do not matter.
func TestRunGoesByPointAlone(t *testing.T) {
	log := toldByChance(2, 50)
	want, _ := plainRun(log)
	for at := range log {
		log[at].Hand, log[at].Begin, log[at].End = at-5, 1000-at, -at
	}
	wantRun(t, log, want, true)
}

// Who was told that there is no room turns nothing, wherever it stands, and whether there was room or none.
func TestRunWithoutWhoWasToldThatThereIsNoRoom(t *testing.T) {
	for n := range 16 {
		log := toldByChance(n, 30)
		want, _ := plainRun(log)
		for point := -1; point <= 30; point++ {
			wantRun(t, append(noRoomRecs(point), log...), want, true, n, point)
			wantRun(t, append(slices.Clone(log), noRoomRecs(point)...), want, true, n, point)
		}
	}
	wantRun(t, noRoomRecs(0), impl.LinState{}, true)
	var most []impl.OpOp
	for v := range 9 {
		most = append(most, op(impl.OpPut, v, v), op(impl.OpPush, 0, v), op(impl.OpEnter, 0, v))
	}
	want := stateOf(entries(0, 0, 1, 1, 2, 2, 3, 3, 4, 4, 5, 5, 6, 6, 7, 7), []int{7, 6, 5, 4, 3, 2, 1, 0}, []int{0, 1, 2, 3, 4, 5, 6, 7})
	wantRun(t, told(most...), want, true, "there is none")
}

// What is told yes, or no, where there is no room, is another answer.
func TestRunWhereThereIsNoRoom(t *testing.T) {
	var most []impl.OpOp
	for v := range 8 {
		most = append(most, op(impl.OpPut, v, v), op(impl.OpPush, 0, v), op(impl.OpEnter, 0, v))
	}
	log := told(most...)
	want, _ := plainRun(log)
	for _, o := range []impl.OpOp{op(impl.OpPut, 9, 9), pushOp, enterOp} {
		for _, res := range []impl.ResRes{yes(0), no, nothing} {
			wantRun(t, append(slices.Clone(log), rec(50, o, res)), want, false, o)
		}
		wantRun(t, append(slices.Clone(log), rec(50, o, full)), want, true, o)
	}
	wantRun(t, append(slices.Clone(log), rec(50, op(impl.OpPut, 3, 9), no)), want, true, "a key that is there")
}

// All but who puts, pushes and enters find room: who else was told that there is none was told something else.
func TestRunOfSomethingElseThatWasToldThatThereIsNoRoom(t *testing.T) {
	ahead := told(op(impl.OpPut, 20, 1), op(impl.OpPush, 0, 2), op(impl.OpEnter, 0, 3))
	want, _ := plainRun(ahead)
	for _, o := range kindsBut(putOp, pushOp, enterOp) {
		wantRun(t, append(slices.Clone(ahead), rec(9, o, full)), want, false, o)
		wantRun(t, []impl.LogRec{rec(9, o, full)}, impl.LinState{}, false, o)
	}
}

// What may not be asked is answered nothing, and leaves nothing; behind that it goes on.
func TestRunOfWhatMayNotBeAsked(t *testing.T) {
	ahead := told(op(impl.OpPut, 20, 1), op(impl.OpPush, 0, 2), op(impl.OpEnter, 0, 3))
	was, _ := plainRun(ahead)
	for _, o := range wrongOps() {
		log := append(slices.Clone(ahead), rec(9, o, nothing))
		wantRun(t, log, impl.LinState{}, true, o)
		log = append(log, rec(10, op(impl.OpPush, 0, 4), yes(0)))
		wantRun(t, log, stateOf(impl.MapMap{}, []int{4}, nil), true, o)
		log = append(log, rec(11, popOp, yes(2)))
		wantRun(t, log, stateOf(impl.MapMap{}, []int{4}, nil), false, o)
		for _, res := range otherAnswers(nothing) {
			if res.Code == impl.ResFull && slices.Contains(placeKinds, o.Kind) {
				wantRun(t, append(slices.Clone(ahead), rec(9, o, res)), was, true, o)
				continue
			}
			wantRun(t, append(slices.Clone(ahead), rec(9, o, res)), was, false, o)
		}
	}
}

// P58

func TestEachBeginningIsAlike(t *testing.T) {
	for n := range 64 {
		log := toldByChance(n, 60)
		log = append(log, noRoomRecs(n)...)
		if _, same := impl.LinRun(log); !same {
			t.Fatalf("run %d is not alike", n)
		}
		sorted := impl.LinSort(log)
		for size := range len(sorted) + 1 {
			want, _ := plainRun(sorted[:size])
			wantRun(t, sorted[:size], want, true, n, size)
		}
	}
}
