package tests

import (
	"fmt"
	"maps"
	"slices"
	"testing"

	"loop.example/tuggers/impl"
)

// starts are worlds in which all hands are idle: with nothing, with few things, with many, and with things left from what was there.
func starts(t *testing.T) map[string]impl.WldWorld {
	t.Helper()
	put := func(keys ...int) []impl.OpOp {
		var all []impl.OpOp
		for _, key := range keys {
			all = append(all, op(impl.OpPut, key, 5*key))
		}
		return all
	}
	push := func(kind, size int) []impl.OpOp {
		var all []impl.OpOp
		for v := range size {
			all = append(all, op(kind, 0, 100*kind+v))
		}
		return all
	}
	world := func(asked ...[]impl.OpOp) impl.WldWorld {
		return alone(t, impl.WldNew(), 2, slices.Concat(asked...)...)
	}
	used := world(put(20, 30), push(impl.OpPush, 2), push(impl.OpEnter, 2), []impl.OpOp{op(impl.OpDel, 20), popOp, leaveOp, clearOp})
	return map[string]impl.WldWorld{
		"nothing":         impl.WldNew(),
		"one of each":     world(put(20), push(impl.OpPush, 1), push(impl.OpEnter, 1)),
		"two of each":     world(put(20, 30), push(impl.OpPush, 2), push(impl.OpEnter, 2)),
		"three keys":      world(put(10, 11, 30), push(impl.OpPush, 1)),
		"the first key":   world(put(0, 1, 2)),
		"three values":    world(push(impl.OpPush, 3), push(impl.OpEnter, 3)),
		"used":            used,
		"used and tidied": impl.WldTidy(used, 3),
		"no room but one": world(put(10, 30), push(impl.OpPush, 2), push(impl.OpEnter, 3)),
		"no room":         world(put(10, 30, 50), push(impl.OpPush, 2), push(impl.OpEnter, 3)),
	}
}

// stills are worlds in which hand 2 stands still at each step of its way, whatever it was asked.
func stills(t *testing.T) map[string]impl.WldWorld {
	t.Helper()
	all := map[string]impl.WldWorld{}
	from := alone(t, impl.WldNew(), 2, op(impl.OpPut, 20, 5), op(impl.OpPut, 30, 6), op(impl.OpPush, 0, 7), op(impl.OpPush, 0, 8), op(impl.OpEnter, 0, 9), op(impl.OpEnter, 0, 10))
	for _, o := range append(kindsBut(putOp), op(impl.OpPut, 21, 4)) {
		w := ask(t, from, 2, o)
		for n := 0; w.Hands[2].Pc != impl.PcIdle; n++ {
			all[fmt.Sprint(o, " behind ", n, " steps")] = w
			w = impl.WldStep(w, 2)
		}
	}
	return all
}

// pairEnd is what there was, what there is in the end, and what both hands answered.
type pairEnd struct {
	was, is    impl.LinState
	one, other []impl.ResRes
}

// pair is two hands, what each is asked, and what holds in the end by whatever turns.
type pair struct {
	one, other script
	want       func(e pairEnd) bool
}

// wantPairs goes through all orders of steps of all pairs of which a promise tells something, while hand 2 is idle, or stands still.
func wantPairs(t *testing.T, pairsOf func(w impl.WldWorld, s impl.LinState) []pair) {
	t.Helper()
	t.Parallel()
	all := starts(t)
	maps.Copy(all, stills(t))
	count := 0
	for name, w := range all {
		was := plainThere(w.Arena)
		for at, p := range pairsOf(w, was) {
			count++
			o := &orders{t: t, from: w, scripts: [impl.PolHands]script{p.one, p.other, nil}}
			o.end = func(is impl.WldWorld, _ seenKeys) {
				e := pairEnd{was: was, is: plainThere(is.Arena), one: o.answersOf(is, 0), other: o.answersOf(is, 1)}
				if !p.want(e) {
					t.Fatalf("%s, pair %d: %+v", name, at, e)
				}
				if !impl.LinOk(is) || !sameState(impl.LinOf(is.Arena), e.is) {
					t.Fatalf("%s, pair %d: it is not alike: %+v, %v", name, at, e, is.Log)
				}
			}
			o.goThrough()
		}
	}
	if count < 20 {
		t.Errorf("there are just %d pairs", count)
	}
}

// keysThere and keysNotThere are some keys that are there, and that are not.

func keysThere(s impl.LinState) []int {
	var keys []int
	for _, e := range s.Map.Entries {
		keys = append(keys, e.Key)
	}
	return keys
}

func keysNotThere(s impl.LinState) []int {
	keys := []int{0, 15, 25, impl.KeyMax}
	for _, key := range keysThere(s) {
		keys = append(keys, min(key+1, impl.KeyMax))
	}
	slices.Sort(keys)
	return slices.DeleteFunc(slices.Compact(keys), func(key int) bool { return slices.Contains(keysThere(s), key) })
}

func valOf(s impl.LinState, key int) int {
	_, res := plainApply(s, op(impl.OpGet, key))
	return res.Val
}

// behindAll is what there is behind some things that are asked one behind the other.
func behindAll(s impl.LinState, all ...impl.OpOp) impl.LinState {
	for _, o := range all {
		s, _ = plainApply(s, o)
	}
	return s
}

// are says whether a hand was answered just that.
func are(answers []impl.ResRes, want ...impl.ResRes) bool {
	return slices.Equal(answers, want)
}

// P65

func TestTwoWhoPutTheSameKeyByWhateverTurns(t *testing.T) {
	wantPairs(t, func(w impl.WldWorld, s impl.LinState) []pair {
		var all []pair
		if impl.ArnFree(w.Arena) < 2 {
			return nil
		}
		for _, key := range keysNotThere(s) {
			one, other := op(impl.OpPut, key, 111), op(impl.OpPut, key, 222)
			all = append(all, pair{asks(one), asks(other), func(e pairEnd) bool {
				return are(e.one, yes(0)) && are(e.other, no) && sameState(e.is, behindAll(s, one)) ||
					are(e.one, no) && are(e.other, yes(0)) && sameState(e.is, behindAll(s, other))
			}})
		}
		return all
	})
}

// P66

func TestTwoWhoDeleteTheSameKeyByWhateverTurns(t *testing.T) {
	wantPairs(t, func(w impl.WldWorld, s impl.LinState) []pair {
		var all []pair
		for _, key := range keysThere(s) {
			del := op(impl.OpDel, key)
			val := yes(valOf(s, key))
			all = append(all, pair{asks(del), asks(del), func(e pairEnd) bool {
				one := are(e.one, val) && are(e.other, no) || are(e.one, no) && are(e.other, val)
				return one && sameState(e.is, behindAll(s, del))
			}})
		}
		return all
	})
}

// firstTwo says whether two hands were told another one of the first two values each, or no, if there are not so many.
func firstTwo(vals []int, one, other []impl.ResRes) bool {
	told := []impl.ResRes{no, no}
	for at, v := range vals[:min(2, len(vals))] {
		told[at] = yes(v)
	}
	return are(one, told[0]) && are(other, told[1]) || are(one, told[1]) && are(other, told[0])
}

// P67

func TestTwoWhoPopByWhateverTurns(t *testing.T) {
	wantPairs(t, func(w impl.WldWorld, s impl.LinState) []pair {
		return []pair{{asks(popOp), asks(popOp), func(e pairEnd) bool {
			return firstTwo(s.Stack, e.one, e.other) && sameState(e.is, behindAll(s, popOp, popOp))
		}}}
	})
}

// P68

func TestTwoWhoLeaveByWhateverTurns(t *testing.T) {
	wantPairs(t, func(w impl.WldWorld, s impl.LinState) []pair {
		return []pair{{asks(leaveOp), asks(leaveOp), func(e pairEnd) bool {
			return firstTwo(s.Queue, e.one, e.other) && sameState(e.is, behindAll(s, leaveOp, leaveOp))
		}}}
	})
}

// P69

func TestTwoWhoEnterByWhateverTurns(t *testing.T) {
	one, other := op(impl.OpEnter, 0, 111), op(impl.OpEnter, 0, 222)
	wantPairs(t, func(w impl.WldWorld, s impl.LinState) []pair {
		if impl.ArnFree(w.Arena) < 2 {
			return nil
		}
		return []pair{{asks(one), asks(other), func(e pairEnd) bool {
			both := are(e.one, yes(0)) && are(e.other, yes(0))
			return both && (sameState(e.is, behindAll(s, one, other)) || sameState(e.is, behindAll(s, other, one)))
		}}}
	})
}

// P70

func TestWhoGetsWhileAnotherOneDeletesByWhateverTurns(t *testing.T) {
	wantPairs(t, func(w impl.WldWorld, s impl.LinState) []pair {
		var all []pair
		for _, key := range keysThere(s) {
			del := op(impl.OpDel, key)
			val := yes(valOf(s, key))
			all = append(all, pair{asks(op(impl.OpGet, key)), asks(del), func(e pairEnd) bool {
				return (are(e.one, val) || are(e.one, no)) && are(e.other, val) && sameState(e.is, behindAll(s, del))
			}})
		}
		return all
	})
}

// P71

func TestTwoWhoPutTwoKeysByWhateverTurns(t *testing.T) {
	wantPairs(t, func(w impl.WldWorld, s impl.LinState) []pair {
		var all []pair
		if impl.ArnFree(w.Arena) < 2 {
			return nil
		}
		keys := keysNotThere(s)
		for at := 1; at < len(keys); at++ {
			one, other := op(impl.OpPut, keys[at-1], 111), op(impl.OpPut, keys[at], 222)
			all = append(all, pair{asks(one), asks(other), func(e pairEnd) bool {
				return are(e.one, yes(0)) && are(e.other, yes(0)) && sameState(e.is, behindAll(s, one, other))
			}})
		}
		return all
	})
}

// P72

func TestWhoPutsBehindWhatIsDeletedByWhateverTurns(t *testing.T) {
	wantPairs(t, func(w impl.WldWorld, s impl.LinState) []pair {
		var all []pair
		if impl.ArnFree(w.Arena) < 1 {
			return nil
		}
		there := keysThere(s)
		for _, key := range there {
			for _, behind := range []int{key + 1, key + 4} {
				if slices.Contains(there, behind) {
					break
				}
				del, put := op(impl.OpDel, key), op(impl.OpPut, behind, 111)
				val := yes(valOf(s, key))
				all = append(all, pair{asks(del), asks(put), func(e pairEnd) bool {
					return are(e.one, val) && are(e.other, yes(0)) && sameState(e.is, behindAll(s, del, put))
				}})
			}
		}
		return all
	})
}

// oneOf says whether a hand was answered one thing, which is one of these.
func oneOf(answers []impl.ResRes, may ...impl.ResRes) bool {
	return len(answers) == 1 && slices.Contains(may, answers[0])
}

var countAll = op(impl.OpCount, 0)

// P9

func TestWhoCountsWhileAnotherOnePutsByWhateverTurns(t *testing.T) {
	wantPairs(t, func(w impl.WldWorld, s impl.LinState) []pair {
		var all []pair
		if impl.ArnFree(w.Arena) < 1 {
			return nil
		}
		size := len(s.Map.Entries)
		for _, key := range keysNotThere(s) {
			put := op(impl.OpPut, key, 111)
			all = append(all, pair{asks(countAll), asks(put), func(e pairEnd) bool {
				return oneOf(e.one, yes(size), yes(size+1)) && are(e.other, yes(0)) && sameState(e.is, behindAll(s, put))
			}})
		}
		return all
	})
}

func TestWhoCountsWhileAnotherOneDeletesByWhateverTurns(t *testing.T) {
	wantPairs(t, func(w impl.WldWorld, s impl.LinState) []pair {
		var all []pair
		size := len(s.Map.Entries)
		for _, key := range keysThere(s) {
			del := op(impl.OpDel, key)
			all = append(all, pair{asks(countAll), asks(del), func(e pairEnd) bool {
				return oneOf(e.one, yes(size), yes(size-1)) && are(e.other, yes(valOf(s, key))) && sameState(e.is, behindAll(s, del))
			}})
		}
		return all
	})
}

// besides are the last key ahead of one that is not there, and the first one behind it.
func besides(s impl.LinState, key int) []int {
	all := keysNotThere(s)
	at, _ := slices.BinarySearch(all, key)
	return all[max(0, at-1):min(at+1, len(all))]
}

// P82

func TestWhoCountsNeverSeesHalf(t *testing.T) {
	wantPairs(t, func(w impl.WldWorld, s impl.LinState) []pair {
		var all []pair
		size := len(s.Map.Entries)
		for _, key := range keysThere(s) {
			for _, other := range besides(s, key) {
				del, put := op(impl.OpDel, key), op(impl.OpPut, other, 111)
				all = append(all, pair{asks(del, put), asks(countAll), func(e pairEnd) bool {
					return e.one[0] == yes(valOf(s, key)) && oneOf(e.other, yes(size), yes(size-1))
				}})
			}
		}
		return all
	})
}

// firstOf is what ListFirst tells of values from a place on.
func firstOf(vals []int, from int) impl.ResRes {
	if from >= len(vals) {
		return no
	}
	return yes(vals[from])
}

// P83

func TestWhoLooksAtTheTopByWhateverTurns(t *testing.T) {
	push := op(impl.OpPush, 0, 111)
	wantPairs(t, func(w impl.WldWorld, s impl.LinState) []pair {
		return []pair{{asks(topOp), asks(push), func(e pairEnd) bool {
			return oneOf(e.one, firstOf(s.Stack, 0), yes(111)) && (are(e.other, yes(0)) || impl.ArnFree(w.Arena) == 0)
		}}}
	})
}

// P84

func TestWhoLooksAtTheFrontByWhateverTurns(t *testing.T) {
	wantPairs(t, func(w impl.WldWorld, s impl.LinState) []pair {
		return []pair{{asks(frontOp), asks(leaveOp), func(e pairEnd) bool {
			return oneOf(e.one, firstOf(s.Queue, 0), firstOf(s.Queue, 1)) && are(e.other, firstOf(s.Queue, 0))
		}}}
	})
}

// P85

func TestWhoAsksForTheNextKeyWhileOneIsPutByWhateverTurns(t *testing.T) {
	wantPairs(t, func(w impl.WldWorld, s impl.LinState) []pair {
		var all []pair
		if impl.ArnFree(w.Arena) < 1 {
			return nil
		}
		for _, key := range keysNotThere(s) {
			put := op(impl.OpPut, key, 111)
			_, next := plainApply(s, op(impl.OpNext, key))
			all = append(all, pair{asks(op(impl.OpNext, key)), asks(put), func(e pairEnd) bool {
				return oneOf(e.one, yes(key), next) && are(e.other, yes(0)) && sameState(e.is, behindAll(s, put))
			}})
		}
		return all
	})
}

// P93

func TestWhoCountsAndWhoGoesAgree(t *testing.T) {
	wantPairs(t, func(w impl.WldWorld, s impl.LinState) []pair {
		_, least := plainApply(s, op(impl.OpNext, 0))
		return []pair{{asks(countAll), asks(op(impl.OpNext, 0)), func(e pairEnd) bool {
			return are(e.one, yes(len(s.Map.Entries))) && are(e.other, least) && sameState(e.is, s)
		}}}
	})
}

// P8

// goesFromKeyToKey is the script of who asks for the next key, and then for the one behind it, and so on.
func goesFromKeyToKey(answers []impl.ResRes) (impl.OpOp, bool) {
	if len(answers) == 0 {
		return op(impl.OpNext, 0), true
	}
	last := answers[len(answers)-1]
	return op(impl.OpNext, last.Val+1), last.Code == impl.ResYes && last.Val < impl.KeyMax
}

func bitsOf(keys uint64) map[int]bool {
	all := map[int]bool{}
	for key := range 64 {
		if keys>>key&1 == 1 {
			all[key] = true
		}
	}
	return all
}

func TestWhoGoesFromKeyToKeyByWhateverTurns(t *testing.T) {
	t.Parallel()
	for name, w := range starts(t) {
		s := plainThere(w.Arena)
		var others [][]impl.OpOp
		for _, key := range keysThere(s) {
			others = append(others, []impl.OpOp{op(impl.OpDel, key), op(impl.OpPut, key+1, 1)}, []impl.OpOp{op(impl.OpDel, key), op(impl.OpPut, key, 2)})
		}
		for _, key := range keysNotThere(s) {
			if key < 64 {
				others = append(others, []impl.OpOp{op(impl.OpPut, key, 1), op(impl.OpDel, key)})
			}
		}
		for _, other := range others {
			o := &orders{t: t, from: w, scripts: [impl.PolHands]script{asks(other...), goesFromKeyToKey, nil}, withKeys: true}
			o.end = func(is impl.WldWorld, keys seenKeys) {
				k := &walk{always: bitsOf(keys.always), ever: bitsOf(keys.ever)}
				for _, res := range o.answersOf(is, 1) {
					k.from(res)
				}
				if broken := k.broken(); broken != "" {
					t.Fatalf("%s, beside %v: %s", name, other, broken)
				}
			}
			o.goThrough()
		}
	}
}

// P1, P51, P52, P76

// pairsOfAll are two things each that are asked at once, of each kind, and of keys that are there, and that are not.
func pairsOfAll() [][2]impl.OpOp {
	all := append(oneOfEachKind(), op(impl.OpPut, 25, 3), op(impl.OpGet, 25))
	var pairs [][2]impl.OpOp
	for at, one := range all {
		for _, other := range all[at:] {
			pairs = append(pairs, [2]impl.OpOp{one, other})
		}
	}
	return pairs
}

func TestAllOrdersOfTwoAreAlike(t *testing.T) {
	t.Parallel()
	watchers := []watcher{isAlike, alikeByHand, turnsJustItsThing, turnsAsItBecomesSo, appliesAsItBecomesSo, toldNoTurnsNothing, pointsInOrder, doneStays}
	all := starts(t)
	for _, name := range []string{"nothing", "two of each"} {
		for _, p := range pairsOfAll() {
			o := &orders{t: t, from: all[name], scripts: [impl.PolHands]script{asks(p[0]), asks(p[1]), nil}, inOrder: true}
			o.end = func(impl.WldWorld, seenKeys) {}
			o.watch = func(h happening) {
				for _, watch := range watchers {
					if _, broken := watch(h); broken != "" {
						t.Fatalf("%s, %v: %s", name, p, broken)
					}
				}
			}
			o.goThrough()
		}
	}
}

// Three hands have so many orders that worlds are told apart without their times.
func TestAllOrdersOfThreeAreAlike(t *testing.T) {
	t.Parallel()
	all := starts(t)
	for name, scripts := range map[string][impl.PolHands]script{
		"two of each":     {asks(op(impl.OpPut, 25, 3)), asks(op(impl.OpDel, 20)), asks(op(impl.OpGet, 25))},
		"one of each":     {asks(op(impl.OpPut, 10, 3), op(impl.OpDel, 10)), asks(op(impl.OpDel, 20)), asks(countAll)},
		"three values":    {asks(leaveOp), asks(leaveOp), asks(op(impl.OpEnter, 0, 3))},
		"three keys":      {asks(op(impl.OpDel, 10)), asks(op(impl.OpDel, 11)), asks(countAll)},
		"used":            {asks(clearOp), asks(op(impl.OpPut, 20, 3)), asks(leaveOp)},
		"no room but one": {asks(op(impl.OpPush, 0, 3)), asks(op(impl.OpEnter, 0, 4)), asks(clearOp)},
		"used and tidied": {asks(op(impl.OpPush, 0, 3)), asks(popOp), asks(topOp)},
	} {
		o := &orders{t: t, from: all[name], scripts: scripts}
		o.end = func(impl.WldWorld, seenKeys) {}
		o.watch = func(h happening) {
			for _, watch := range []watcher{isAlike, turnsJustItsThing, turnsAsItBecomesSo, toldNoTurnsNothing} {
				if _, broken := watch(h); broken != "" {
					t.Fatalf("%s: %s", name, broken)
				}
			}
		}
		o.goThrough()
	}
}

// The head's word is turned, and turned back, while another key is marked: who counts saw neither key, at a time at which one was there. It looks again, as the word counts as turned.
func TestWhoCountsIsNotMisledByAWordThatWasTurnedBack(t *testing.T) {
	w := alone(t, impl.WldNew(), 0, op(impl.OpPut, 20, 2))
	w = goTill(t, ask(t, w, 2, countAll), 2, impl.PcCount)
	w = alone(t, w, 0, op(impl.OpPut, 10, 1))
	w = goTill(t, ask(t, w, 1, op(impl.OpDel, 20)), 1, impl.PcCut)
	w = goTill(t, w, 2, impl.PcWalk)
	first := w.Clock
	wantState(t, plainThere(w.Arena), stateOf(entries(10, 1), nil, nil), "as the first look ends")
	w = alone(t, w, 0, op(impl.OpDel, 10))
	for range 2 {
		w = impl.WldStep(w, 2)
	}
	if w.Arena.Nodes[0].Word != 4 || w.Hands[2].Pc != impl.PcWalk {
		t.Fatalf("behind the second look hand 2 is %+v", w.Hands[2])
	}
	w = goTill(t, w, 2, impl.PcIdle)
	wantAnswer(t, w, 2, countAll, yes(0))
	if lastAnswer(w).Point <= first || !impl.LinOk(w) {
		t.Errorf("it is so as of %d, and the first look ended at %d", lastAnswer(w).Point, first)
	}
}
