package tests

import (
	"maps"
	"math"
	"slices"
	"testing"

	"loop.example/tuggers/impl"
)

func stateOf(m impl.MapMap, stack, queue []int) impl.LinState {
	return impl.LinState{Map: m, Stack: stack, Queue: queue}
}

// someState has things in map, stack and queue, and no two of these alike.
func someState() impl.LinState {
	return stateOf(entries(10, 1, 20, 2, 30, 3), []int{5, 6}, []int{7, 8, 9})
}

// fullState has no room in map, stack and queue.
func fullState() impl.LinState {
	return stateOf(fullMap(), []int{1, 2, 3, 4, 5, 6, 7, 8}, []int{8, 7, 6, 5, 4, 3, 2, 1})
}

// okStates have each map and each list that is ok, beside others.
func okStates() []impl.LinState {
	all := []impl.LinState{{}, someState(), fullState()}
	lists := okLists()
	for i, m := range okMaps() {
		for j := range lists {
			all = append(all, stateOf(m, lists[j], lists[(i+j)%len(lists)]))
		}
	}
	return all
}

// wrongStates have one of map, stack and queue that is not ok each, with nothing else, and with others that are ok.
func wrongStates() map[string]impl.LinState {
	all := map[string]impl.LinState{}
	for name, m := range wrongMaps() {
		all["map alone: "+name] = stateOf(m, nil, nil)
		all["map: "+name] = stateOf(m, []int{5, 6}, []int{7})
	}
	for name, vals := range wrongLists() {
		all["stack alone: "+name] = stateOf(impl.MapMap{}, vals, nil)
		all["stack: "+name] = stateOf(entries(10, 1), vals, []int{7})
		all["queue alone: "+name] = stateOf(impl.MapMap{}, nil, vals)
		all["queue: "+name] = stateOf(entries(10, 1), []int{5, 6}, vals)
	}
	return all
}

func anyStates() []impl.LinState {
	return slices.AppendSeq(okStates(), maps.Values(wrongStates()))
}

func cloneState(s impl.LinState) impl.LinState {
	return stateOf(impl.MapMap{Entries: slices.Clone(s.Map.Entries)}, slices.Clone(s.Stack), slices.Clone(s.Queue))
}

// sameState takes an empty list and none as the same.
func sameState(a, b impl.LinState) bool {
	return sameMap(a.Map, b.Map) && slices.Equal(a.Stack, b.Stack) && slices.Equal(a.Queue, b.Queue)
}

func wantState(t *testing.T, got, want impl.LinState, of ...any) {
	t.Helper()
	if !sameState(got, want) {
		t.Errorf("got %v, want %v, of %v", got, want, of)
	}
}

// wantRun is of a state, and whether all answers were the same.
func wantRun(t *testing.T, log []impl.LogRec, want impl.LinState, wantSame bool, of ...any) {
	t.Helper()
	got, same := impl.LinRun(log)
	if !sameState(got, want) || same != wantSame {
		t.Errorf("got %v %v, want %v %v, of %v, %v", got, same, want, wantSame, log, of)
	}
}

// The document's numbers of what turns, or looks at, map, stack and queue.
var (
	mapKinds   = []int{1, 2, 3, 9, 10}
	stackKinds = []int{5, 6, 11}
	queueKinds = []int{7, 8, 12}
	lookKinds  = []int{1, 4, 9, 10, 11, 12}
	placeKinds = []int{2, 5, 7}
)

// opsOf are things that may be asked of a state: with each key that may be, of each kind that has one.
func opsOf() []impl.OpOp {
	all := ops()
	for _, kind := range mapKinds {
		for key := range impl.KeyMax + 1 {
			o := op(kind, key)
			if kind == impl.OpPut {
				o.Val = 10*key + 5
			}
			all = append(all, o)
		}
	}
	return all
}

// plainApply is what a state that is ok answers to what may be asked, and what it is behind it, by no function of the program.
func plainApply(s impl.LinState, o impl.OpOp) (impl.LinState, impl.ResRes) {
	s = cloneState(s)
	var res impl.ResRes
	switch {
	case slices.Contains(mapKinds, o.Kind):
		s.Map.Entries, res = plainMap(s.Map.Entries, o)
	case slices.Contains(stackKinds, o.Kind):
		s.Stack, res = plainList(s.Stack, o, true)
	case slices.Contains(queueKinds, o.Kind):
		s.Queue, res = plainList(s.Queue, o, false)
	default:
		res = yes(0)
	}
	return s, res
}

func plainMap(all []impl.MapEntry, o impl.OpOp) ([]impl.MapEntry, impl.ResRes) {
	vals := map[int]int{}
	least, count := math.MaxInt, 0
	for _, e := range all {
		vals[e.Key] = e.Val
		if e.Key >= o.Key {
			least = min(least, e.Key)
			count++
		}
	}
	val, there := vals[o.Key]
	switch {
	case o.Kind == impl.OpCount:
		return all, yes(count)
	case o.Kind == impl.OpNext && count > 0:
		return all, yes(least)
	case o.Kind == impl.OpNext:
		return all, no
	case there != (o.Kind != impl.OpPut):
		return all, no
	case o.Kind == impl.OpGet:
		return all, yes(val)
	case o.Kind == impl.OpDel:
		return slices.DeleteFunc(all, func(e impl.MapEntry) bool { return e.Key == o.Key }), yes(val)
	case len(all) == 8:
		return all, full
	}
	all = append(all, impl.MapEntry{Key: o.Key, Val: o.Val})
	slices.SortFunc(all, func(a, b impl.MapEntry) int { return a.Key - b.Key })
	return all, yes(0)
}

func plainList(vals []int, o impl.OpOp, ahead bool) ([]int, impl.ResRes) {
	puts := slices.Contains(placeKinds, o.Kind)
	switch {
	case puts && len(vals) == 8:
		return vals, full
	case puts && ahead:
		return slices.Insert(vals, 0, o.Val), yes(0)
	case puts:
		return append(vals, o.Val), yes(0)
	case len(vals) == 0:
		return vals, no
	case slices.Contains(lookKinds, o.Kind):
		return vals, yes(vals[0])
	}
	return vals[1:], yes(vals[0])
}

// plainSort puts one behind the other, each behind all of its Point and less.
func plainSort(log []impl.LogRec) []impl.LogRec {
	var sorted []impl.LogRec
	for _, r := range log {
		at := len(sorted)
		for at > 0 && sorted[at-1].Point > r.Point {
			at--
		}
		sorted = slices.Insert(sorted, at, r)
	}
	return sorted
}

// plainRun is LinRun, by no function of the program but for what may be asked.
func plainRun(log []impl.LogRec) (impl.LinState, bool) {
	s := impl.LinState{}
	for _, r := range plainSort(log) {
		if slices.Contains(placeKinds, r.Op.Kind) && r.Res.Code == impl.ResFull {
			continue
		}
		is, res := impl.LinState{}, nothing
		if impl.OpOk(r.Op) {
			is, res = plainApply(s, r.Op)
		}
		if res != r.Res {
			return s, false
		}
		s = is
	}
	return s, true
}

// rec is an answer of which just its time matters beside what it is.
func rec(point int, o impl.OpOp, res impl.ResRes) impl.LogRec {
	return impl.LogRec{Op: o, Res: res, Begin: point, Point: point, End: point}
}

// told is a row of answers, at 0 and on, of which each is what a state answers.
func told(asked ...impl.OpOp) []impl.LogRec {
	var log []impl.LogRec
	s := impl.LinState{}
	for at, o := range asked {
		is, res := plainApply(s, o)
		log = append(log, rec(at, o, res))
		s = is
	}
	return log
}

// toldByChance is a row of answers of so many things, of few keys, with no two Points alike, in any order.
func toldByChance(n, size int) []impl.LogRec {
	p := newPlayer(n)
	var asked []impl.OpOp
	for range size {
		asked = append(asked, p.asks())
	}
	log := told(asked...)
	for at := range log {
		log[at].Hand = p.below(impl.PolHands)
		other := p.below(at + 1)
		log[at], log[other] = log[other], log[at]
	}
	return log
}
