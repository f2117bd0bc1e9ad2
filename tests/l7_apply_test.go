package tests

import (
	"slices"
	"testing"

	"loop.example/tuggers/impl"
)

func wantApply(t *testing.T, s impl.LinState, o impl.OpOp, want impl.LinState, wantRes impl.ResRes, of ...any) {
	t.Helper()
	if got, res := impl.LinApply(s, o); !sameState(got, want) || res != wantRes {
		t.Errorf("%v of %v: got %v %v, want %v %v, of %v", o, s, got, res, want, wantRes, of)
	}
}

// eachAsk hands out each state that is ok with each thing that may be asked of it.
func eachAsk(do func(s impl.LinState, o impl.OpOp)) {
	for _, s := range okStates() {
		for _, o := range opsOf() {
			do(s, o)
		}
	}
}

// P37

func TestApplyIsWhatIsAsked(t *testing.T) {
	eachAsk(func(s impl.LinState, o impl.OpOp) {
		want, res := plainApply(s, o)
		wantApply(t, s, o, want, res)
	})
}

// byChapterOne is LinApply in the document's words.
func byChapterOne(s impl.LinState, o impl.OpOp) (impl.LinState, impl.ResRes) {
	var res impl.ResRes
	switch o.Kind {
	case impl.OpGet:
		res = impl.MapGet(s.Map, o.Key)
	case impl.OpPut:
		s.Map, res = impl.MapPut(s.Map, o.Key, o.Val)
	case impl.OpDel:
		s.Map, res = impl.MapDel(s.Map, o.Key)
	case impl.OpClear:
		res = yes(0)
	case impl.OpPush:
		s.Stack, res = impl.StkPush(s.Stack, o.Val)
	case impl.OpPop:
		s.Stack, res = impl.ListTake(s.Stack)
	case impl.OpEnter:
		s.Queue, res = impl.QuePut(s.Queue, o.Val)
	case impl.OpLeave:
		s.Queue, res = impl.ListTake(s.Queue)
	case impl.OpNext:
		res = impl.MapNext(s.Map, o.Key)
	case impl.OpCount:
		res = impl.MapCount(s.Map, o.Key)
	case impl.OpTop:
		res = impl.ListFirst(s.Stack)
	case impl.OpFront:
		res = impl.ListFirst(s.Queue)
	}
	return s, res
}

func TestApplyIsOfChapterOne(t *testing.T) {
	eachAsk(func(s impl.LinState, o impl.OpOp) {
		want, res := byChapterOne(s, o)
		wantApply(t, s, o, want, res)
	})
}

// Each kind by itself, with room and with none, with something there and with nothing.
func TestApplyOfEachKind(t *testing.T) {
	s, none, most := someState(), impl.LinState{}, fullState()
	wantApply(t, s, op(impl.OpGet, 20), s, yes(2))
	wantApply(t, s, op(impl.OpGet, 25), s, no)
	wantApply(t, none, op(impl.OpGet, 0), none, no)
	wantApply(t, s, op(impl.OpPut, 25, 9), stateOf(entries(10, 1, 20, 2, 25, 9, 30, 3), s.Stack, s.Queue), yes(0))
	wantApply(t, s, op(impl.OpPut, 20, 9), s, no)
	wantApply(t, most, op(impl.OpPut, 25, 9), most, full)
	wantApply(t, most, op(impl.OpPut, 20, 9), most, no)
	wantApply(t, s, op(impl.OpDel, 20), stateOf(entries(10, 1, 30, 3), s.Stack, s.Queue), yes(2))
	wantApply(t, s, op(impl.OpDel, 25), s, no)
	wantApply(t, none, op(impl.OpDel, 0), none, no)
	for _, all := range []impl.LinState{s, none, most} {
		wantApply(t, all, clearOp, all, yes(0))
	}
	wantApply(t, s, op(impl.OpPush, 0, 9), stateOf(s.Map, []int{9, 5, 6}, s.Queue), yes(0))
	wantApply(t, most, op(impl.OpPush, 0, 9), most, full)
	wantApply(t, s, popOp, stateOf(s.Map, []int{6}, s.Queue), yes(5))
	wantApply(t, stateOf(s.Map, nil, s.Queue), popOp, stateOf(s.Map, nil, s.Queue), no)
	wantApply(t, s, op(impl.OpEnter, 0, 4), stateOf(s.Map, s.Stack, []int{7, 8, 9, 4}), yes(0))
	wantApply(t, most, op(impl.OpEnter, 0, 4), most, full)
	wantApply(t, s, leaveOp, stateOf(s.Map, s.Stack, []int{8, 9}), yes(7))
	wantApply(t, stateOf(s.Map, s.Stack, nil), leaveOp, stateOf(s.Map, s.Stack, nil), no)
	wantApply(t, s, op(impl.OpNext, 11), s, yes(20))
	wantApply(t, s, op(impl.OpNext, 31), s, no)
	wantApply(t, s, op(impl.OpCount, 11), s, yes(2))
	wantApply(t, s, op(impl.OpCount, 31), s, yes(0))
	wantApply(t, s, topOp, s, yes(5))
	wantApply(t, stateOf(s.Map, nil, s.Queue), topOp, stateOf(s.Map, nil, s.Queue), no)
	wantApply(t, s, frontOp, s, yes(7))
	wantApply(t, stateOf(s.Map, s.Stack, nil), frontOp, stateOf(s.Map, s.Stack, nil), no)
}

func TestApplyTurnsJustThatOfWhichItIsAsked(t *testing.T) {
	eachAsk(func(s impl.LinState, o impl.OpOp) {
		got, _ := impl.LinApply(s, o)
		if !sameMap(got.Map, s.Map) && !slices.Contains(mapKinds, o.Kind) ||
			!slices.Equal(got.Stack, s.Stack) && !slices.Contains(stackKinds, o.Kind) ||
			!slices.Equal(got.Queue, s.Queue) && !slices.Contains(queueKinds, o.Kind) {
			t.Errorf("%v of %v leaves %v", o, s, got)
		}
	})
}

func TestApplyOfAStateThatIsNotOk(t *testing.T) {
	for name, s := range wrongStates() {
		for _, o := range append(ops(), wrongOps()...) {
			wantApply(t, s, o, impl.LinState{}, nothing, name)
		}
	}
}

func TestApplyOfWhatMayNotBeAsked(t *testing.T) {
	for _, o := range wrongOps() {
		for _, s := range okStates() {
			wantApply(t, s, o, impl.LinState{}, nothing)
		}
	}
}

// P59

// thingOf is of which of map, stack and queue something is asked; who clears up asks of none.
func thingOf(o impl.OpOp) string {
	switch {
	case slices.Contains(mapKinds, o.Kind):
		return "map"
	case slices.Contains(stackKinds, o.Kind):
		return "stack"
	case slices.Contains(queueKinds, o.Kind):
		return "queue"
	}
	return "none"
}

func wantEitherOrder(t *testing.T, s impl.LinState, one, other impl.OpOp) {
	t.Helper()
	first, firstRes := impl.LinApply(s, one)
	first, thenRes := impl.LinApply(first, other)
	second, otherRes := impl.LinApply(s, other)
	second, oneRes := impl.LinApply(second, one)
	if !sameState(first, second) || firstRes != oneRes || thenRes != otherRes {
		t.Errorf("%v, %v of %v: one way %v %v %v, the other way %v %v %v", one, other, s, first, firstRes, thenRes, second, oneRes, otherRes)
	}
	if firstRes == nothing || thenRes == nothing {
		t.Errorf("%v, %v of %v: there is no answer", one, other, s)
	}
}

func TestAsksOfTwoThingsInEitherOrder(t *testing.T) {
	asked := append(ops(), op(impl.OpGet, 10), op(impl.OpPut, 10, 4), op(impl.OpDel, 10), op(impl.OpPut, 15, 4))
	for _, s := range okStates() {
		for _, one := range asked {
			for _, other := range asked {
				if thingOf(one) != thingOf(other) {
					wantEitherOrder(t, s, one, other)
				}
			}
		}
	}
}

// P90

func TestToLookTurnsNoState(t *testing.T) {
	eachAsk(func(s impl.LinState, o impl.OpOp) {
		if !slices.Contains(lookKinds, o.Kind) {
			return
		}
		got, res := impl.LinApply(s, o)
		wantState(t, got, s, "behind", o)
		wantApply(t, got, o, s, res, "asked again")
	})
}

// P91

func TestWhatWasPutInCanBeTakenOut(t *testing.T) {
	count := map[int]int{}
	eachAsk(func(s impl.LinState, o impl.OpOp) {
		var out impl.OpOp
		switch o.Kind {
		case impl.OpPush:
			out = popOp
		case impl.OpPut:
			out = op(impl.OpDel, o.Key)
		default:
			return
		}
		is, res := impl.LinApply(s, o)
		if res == yes(0) {
			count[o.Kind]++
			wantApply(t, is, out, s, yes(o.Val), "behind", o)
		}
	})
	if count[impl.OpPush] == 0 || count[impl.OpPut] == 0 {
		t.Errorf("nothing was put in: %v", count)
	}
}

// All that entered leaves in its order, whatever else is asked between.
func TestWhatEnteredLeavesInItsOrder(t *testing.T) {
	s := stateOf(fullMap(), []int{1}, nil)
	for v := range 8 {
		s, _ = impl.LinApply(s, op(impl.OpEnter, 0, v))
		s, _ = impl.LinApply(s, op(impl.OpDel, 10*v))
	}
	for v := range 8 {
		res := nothing
		s, res = impl.LinApply(s, leaveOp)
		wantRes(t, res, yes(v))
	}
	wantState(t, s, stateOf(entries(80, 8), []int{1}, nil))
}
