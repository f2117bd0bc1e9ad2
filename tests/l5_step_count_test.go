package tests

import (
	"testing"

	"loop.example/tuggers/impl"
)

func traceIs(text string) turn {
	return func(_ *impl.WldWorld, h *impl.HndHand) { h.Trace = text }
}

// lastTraceIs is what a hand saw the time ahead.
func lastTraceIs(text string) turn {
	return func(_ *impl.WldWorld, h *impl.HndHand) { h.Last = text }
}

func numIs(num int) turn {
	return func(_ *impl.WldWorld, h *impl.HndHand) { h.Num = num }
}

func verIs(at, ver int) turn {
	return func(w *impl.WldWorld, _ *impl.HndHand) { w.Arena.Nodes[at].Ver = ver }
}

// walkEnds is what a look at all places leaves for the next one.
func walkEnds(text string) turn {
	return func(_ *impl.WldWorld, h *impl.HndHand) {
		h.Trace, h.Last, h.Mid, h.Curr = text, text, now, impl.HndRef{}
	}
}

// countAlike is the answer behind a second look that saw the same: it is so as of the end of the first one.
func countAlike(num int) turn {
	return and(tells(yes(num)), pointIs(23), done, to(impl.PcUnpin))
}

// The rows PcWalk and PcCount. In a busy world the head leads to place 4, by a word that was turned 20 times, that to place 2, 24 times, and that to none, 22 times.
func countCases() cases {
	all := cases{}
	for _, o := range kindsBut(countOp) {
		addWalk(all, o)
	}
	for _, key := range []int{0, 9, 10, 11, 19, 20, 21, 99} {
		addWalk(all, op(impl.OpCount, key))
		addCount(all, op(impl.OpCount, key))
	}
	return all
}

func addWalk(all cases, o impl.OpOp) {
	begin := and(numIs(0), currIs(4), traceIs("0:8:20;"), to(impl.PcCount))
	all.add(impl.PcWalk, o, "to the first", asIs, begin)
	all.add(impl.PcWalk, o, "to the first, done", done, begin)
	all.add(impl.PcWalk, o, "to the first, which is all that was seen ahead", lastTraceIs("0:8:20;"), begin)
	all.add(impl.PcWalk, o, "the head was often turned", verIs(0, 999999), numIs(0), currIs(4), traceIs("0:8:999999;"), to(impl.PcCount))
	none := and(noKeys, numIs(7))
	again := and(numIs(0), walkEnds("0:0:20;"), to(impl.PcWalk))
	all.add(impl.PcWalk, o, "to none", none, again)
	all.add(impl.PcWalk, o, "to none, the first time", and(none, lastTraceIs("")), again)
	all.add(impl.PcWalk, o, "to none, and the head was turned", and(none, lastTraceIs("0:0:19;")), again)
	all.add(impl.PcWalk, o, "to none, where there was one", and(none, lastTraceIs("0:8:20;4:0:24;")), again)
	all.add(impl.PcWalk, o, "to none, twice", and(none, lastTraceIs("0:0:20;")), numIs(0), countAlike(0), walkEnds("0:0:20;"))
}

func addCount(all cases, o impl.OpOp) {
	// more is one more, where a key is at least that from which on is counted.
	more := func(num, key int) int {
		if key >= o.Key {
			return num + 1
		}
		return num
	}
	all.add(impl.PcCount, o, "the first", currIs(4), numIs(more(1, 10)), traceIs("0:8:1;4:4:24;"), currIs(2))
	all.add(impl.PcCount, o, "the first, marked", and(currIs(4), wordIs(4, 5)), traceIs("0:8:1;4:5:24;"), currIs(2))
	all.add(impl.PcCount, o, "the first, done", and(currIs(4), done), numIs(more(1, 10)), traceIs("0:8:1;4:4:24;"), currIs(2))
	all.add(impl.PcCount, o, "the first, as was seen ahead", and(currIs(4), lastTraceIs("0:8:1;4:4:24;")), numIs(more(1, 10)), traceIs("0:8:1;4:4:24;"), currIs(2))
	all.add(impl.PcCount, o, "most of all places", and(currIs(4), numIs(8)), numIs(more(8, 10)), traceIs("0:8:1;4:4:24;"), currIs(2))
	seen := "0:8:1;2:0:22;"
	again := and(numIs(more(1, 20)), walkEnds(seen), to(impl.PcWalk))
	all.add(impl.PcCount, o, "the last", asIs, again)
	all.add(impl.PcCount, o, "the last, the first time", lastTraceIs(""), again)
	all.add(impl.PcCount, o, "the last, whose word was turned", lastTraceIs("0:8:1;2:6:22;"), again)
	all.add(impl.PcCount, o, "the last, whose word was turned, and back", lastTraceIs("0:8:1;2:0:20;"), again)
	all.add(impl.PcCount, o, "the last, where there were more", lastTraceIs(seen+"9:0:29;"), again)
	all.add(impl.PcCount, o, "the last, where there were less", lastTraceIs("0:8:1;"), again)
	all.add(impl.PcCount, o, "the last, twice", lastTraceIs(seen), numIs(more(1, 20)), countAlike(more(1, 20)), walkEnds(seen))
	all.add(impl.PcCount, o, "the last, twice, none counted ahead", and(numIs(0), lastTraceIs(seen)), numIs(more(0, 20)), countAlike(more(0, 20)), walkEnds(seen))
	gone := "0:8:1;2:1:22;"
	all.add(impl.PcCount, o, "the last, marked", wordIs(2, 1), walkEnds(gone), to(impl.PcWalk))
	all.add(impl.PcCount, o, "the last, marked since", and(wordIs(2, 1), lastTraceIs(seen)), walkEnds(gone), to(impl.PcWalk))
	all.add(impl.PcCount, o, "the last, marked, twice", and(wordIs(2, 1), lastTraceIs(gone)), countAlike(1), walkEnds(gone))
}

func TestStepsOfWhoCounts(t *testing.T) {
	checkSteps(t, countCases())
}
