package tests

import (
	"maps"
	"slices"
	"testing"

	"loop.example/tuggers/impl"
)

// roomyState has junk in spare room behind each of its lists.
func roomyState(s impl.LinState) impl.LinState {
	return stateOf(impl.MapMap{Entries: roomy(s.Map.Entries, junkEntry)}, roomy(s.Stack, junkVal), roomy(s.Queue, junkVal))
}

// wholeState is a copy of a state, with the room behind the end of each list as if it were in it.
func wholeState(s impl.LinState) impl.LinState {
	return cloneState(stateOf(impl.MapMap{Entries: s.Map.Entries[:cap(s.Map.Entries)]}, s.Stack[:cap(s.Stack)], s.Queue[:cap(s.Queue)]))
}

func overwriteState(s impl.LinState, e impl.MapEntry, val int) {
	overwrite(s.Map.Entries, e)
	overwrite(s.Stack, val)
	overwrite(s.Queue, val)
}

// wantOwnLists writes into each list of an answer, and behind it: no other one of it may turn.
func wantOwnLists(t *testing.T, s impl.LinState, of ...any) {
	t.Helper()
	was := cloneState(s)
	overwrite(s.Map.Entries, otherEntry)
	wantState(t, stateOf(was.Map, s.Stack, s.Queue), was, of, "behind a write into the map")
	overwrite(s.Stack, otherVal)
	wantInts(t, s.Queue, was.Queue, of, "behind a write into the stack")
	copy(s.Stack, was.Stack)
	overwrite(s.Queue, otherVal)
	wantInts(t, s.Stack, was.Stack, of, "behind a write into the queue")
}

func TestApplyIsNewMemory(t *testing.T) {
	asked := append(slices.Concat(ops(), wrongOps()), op(impl.OpGet, 10), op(impl.OpPut, 10, 4), op(impl.OpDel, 10), op(impl.OpPut, 15, 4))
	for _, s := range anyStates() {
		for _, o := range asked {
			argument := roomyState(s)
			was := wholeState(argument)
			answer, _ := impl.LinApply(argument, o)
			second, _ := impl.LinApply(argument, o)
			want := cloneState(answer)
			overwriteState(answer, otherEntry, otherVal)
			wantState(t, wholeState(argument), was, o, "the argument behind a write into the answer")
			wantState(t, second, want, o, "the second answer behind a write into the first")
			overwriteState(argument, junkEntry, junkVal)
			wantState(t, second, want, o, "the answer behind a write into the argument")
			wantOwnLists(t, second, o)
		}
	}
}

func TestSortIsNewMemory(t *testing.T) {
	for _, log := range logs() {
		checkMemory(t, log, junkRec, otherRec, impl.LinSort)
	}
}

// logsToRun are answers of which some are alike, and some are not, in no order.
func logsToRun() [][]impl.LogRec {
	all := [][]impl.LogRec{nil, noRoomRecs(1), {rec(1, op(99), nothing)}}
	for n := range 16 {
		log := append(toldByChance(n, 40), noRoomRecs(n)...)
		broken := slices.Clone(log)
		broken[n].Res = yes(998)
		all = append(all, log, broken)
	}
	return all
}

func TestRunOfAnswersIsNewMemory(t *testing.T) {
	for _, log := range logsToRun() {
		run := func(log []impl.LogRec) impl.LinState {
			s, _ := impl.LinRun(log)
			return s
		}
		checkMemory(t, log, junkRec, otherEntry, func(log []impl.LogRec) []impl.MapEntry { return run(log).Map.Entries })
		checkMemory(t, log, junkRec, otherVal, func(log []impl.LogRec) []int { return run(log).Stack })
		checkMemory(t, log, junkRec, otherVal, func(log []impl.LogRec) []int { return run(log).Queue })
		wantOwnLists(t, run(log), log)
	}
}

func TestWhatThereIsIsNewMemory(t *testing.T) {
	for name, a := range anyArenas() {
		checkMemory(t, a.Nodes, junkNode, otherEntry, nodes(a, func(b impl.ArnArena) []impl.MapEntry { return impl.LinOf(b).Map.Entries }))
		checkMemory(t, a.Nodes, junkNode, otherVal, nodes(a, func(b impl.ArnArena) []int { return impl.LinOf(b).Stack }))
		checkMemory(t, a.Nodes, junkNode, otherVal, nodes(a, func(b impl.ArnArena) []int { return impl.LinOf(b).Queue }))
		wantOwnLists(t, impl.LinOf(a), name)
	}
}

// worldsToTell are worlds of which each list has something in it, with none, some and all hands done; and some that are not ok.
func worldsToTell(t *testing.T) map[string]impl.WldWorld {
	t.Helper()
	all := memoryWorlds()
	all["alike"] = alike(t)
	all["busy"] = busyWorld(impl.PcUnpin, putOp)
	for name, w := range maps.Clone(all) {
		if len(w.Hands) != impl.PolHands || !impl.WldOk(w) {
			continue
		}
		done := cloneWorld(w)
		for k := range done.Hands {
			done.Hands[k].Done = done.Hands[k].Pc != impl.PcIdle
		}
		all[name+", done"] = done
	}
	return all
}

func TestLogsAreNewMemory(t *testing.T) {
	for name, w := range worldsToTell(t) {
		argument := roomyWorld(cloneWorld(w))
		was := wholeWorld(argument)
		answer, second := impl.LinLog(argument), impl.LinLog(argument)
		impl.LinOk(argument)
		want := slices.Clone(answer)
		wantWorld(t, wholeWorld(argument), was, name, "behind the call")
		overwrite(answer, otherRec)
		wantWorld(t, wholeWorld(argument), was, name, "behind a write into the answer")
		if !slices.Equal(second, want) {
			t.Errorf("%s: two answers share memory, or differ: %v, %v", name, second, want)
		}
		overwriteWorld(argument, junkNode, junkVal, junkOld, junkHand, junkRec)
		if !slices.Equal(second, want) {
			t.Errorf("%s: a write into the argument turned the answer: %v, want %v", name, second, want)
		}
	}
}
