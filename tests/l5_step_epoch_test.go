package tests

import (
	"fmt"
	"slices"
	"testing"

	"loop.example/tuggers/impl"
)

// inEpoch puts the whole world into another epoch.
func inEpoch(epoch int) turn {
	return func(w *impl.WldWorld, h *impl.HndHand) {
		w.Pool = pool(epoch, []int{epoch + 1, w.Pool.Pins[acting], 0}, nil, nil, nil)
		if w.Pool.Pins[acting] != 0 {
			w.Pool.Pins[acting] = epoch + 1
		}
		for k := range w.Hands {
			w.Hands[k].Seen = 0
		}
	}
}

// The rows from PcEpoch to PcCheck, PcUnpin and PcEnd.
func epochCases() cases {
	all := cases{}
	for _, o := range oneOfEachKind() {
		all.add(impl.PcEpoch, o, "as it was seen", asIs, to(impl.PcPin))
		all.add(impl.PcEpoch, o, "not yet seen", seenIs(0), seenIs(epochThen), to(impl.PcPin))
		for _, seen := range []int{0, 4, epochThen} {
			all.add(impl.PcPin, o, fmt.Sprint("not pinned, seen ", seen), and(seenIs(seen), pinIs(acting, 0)), pinIs(acting, seen+1), to(impl.PcCheck))
			all.add(impl.PcPin, o, fmt.Sprint("pinned, seen ", seen), and(seenIs(seen), pinIs(acting, 3)), pinIs(acting, seen+1), to(impl.PcCheck))
		}
		for _, seen := range []int{0, 3, 4} {
			all.add(impl.PcCheck, o, fmt.Sprint("the epoch has gone on from ", seen), and(seenIs(seen), pinIs(acting, seen+1)), to(impl.PcEpoch))
		}
	}
	all.add(impl.PcEpoch, getOp, "the first epoch", inEpoch(0), to(impl.PcPin))
	all.add(impl.PcEpoch, getOp, "the last epoch", inEpoch(impl.PolMost), seenIs(impl.PolMost), to(impl.PcPin))
	all.add(impl.PcPin, getOp, "the last epoch", and(inEpoch(impl.PolMost), seenIs(impl.PolMost)), pinIs(acting, impl.PolMost+1), to(impl.PcCheck))
	for pc, asked := range beginsAt() {
		for _, o := range asked {
			all.add(impl.PcCheck, o, "the epoch is that which was seen", asIs, to(pc))
		}
	}
	addEnds(all)
	return all
}

// beginsAt is, by where it begins once it is pinned, what is asked.
func beginsAt() map[int][]impl.OpOp {
	return map[int][]impl.OpOp{
		impl.PcTake:  {pushOp, enterOp},
		impl.PcTop:   {popOp, topOp},
		impl.PcFirst: {leaveOp, frontOp},
		impl.PcWalk:  {countOp},
		impl.PcHead:  {getOp, putOp, delOp, clearOp, nextOp},
	}
}

// answered is one more answer, noted last, of the acting hand of a busy world, which is idle then.
func answered(o impl.OpOp, res impl.ResRes) turn {
	return func(w *impl.WldWorld, h *impl.HndHand) {
		w.Log = append(slices.Clone(w.Log), impl.LogRec{Hand: acting, Op: o, Res: res, Begin: 3, Point: 22, End: now})
		*h = impl.HndHand{}
	}
}

// soMany lets so many answers be noted.
func soMany(size int) turn {
	return func(w *impl.WldWorld, _ *impl.HndHand) {
		w.Log = slices.Repeat([]impl.LogRec{{Hand: 2, Op: popOp, Res: yes(5), Begin: 1, Point: 2, End: 3}}, size)
	}
}

func isIdle(_ *impl.WldWorld, h *impl.HndHand) { *h = impl.HndHand{} }

func addEnds(all cases) {
	for _, o := range oneOfEachKind() {
		end := impl.PcEnd
		if o == clearOp {
			end = impl.PcRead
		}
		all.add(impl.PcUnpin, o, "pinned in this epoch", asIs, pinIs(acting, 0), to(end))
		all.add(impl.PcUnpin, o, "pinned one epoch ahead", and(pinIs(acting, epochThen), done), pinIs(acting, 0), to(end))
		for _, res := range answers() {
			all.add(impl.PcEnd, o, fmt.Sprint("answers ", res), tells(res), answered(o, res))
		}
		for _, size := range []int{0, 1, impl.LogMost - 2, impl.LogMost - 1} {
			all.add(impl.PcEnd, o, fmt.Sprint("so many are noted: ", size), soMany(size), answered(o, yes(9)))
		}
		all.add(impl.PcEnd, o, "the log is full", soMany(impl.LogMost), isIdle)
	}
}

// The rows from PcRead to PcFree.
func clearCases() cases {
	all := cases{}
	for _, o := range oneOfEachKind() {
		all.add(impl.PcRead, o, "begins to scan", and(seenIs(2), scanIs(3)), seenIs(epochThen), scanIs(0), to(impl.PcScan))
		all.add(impl.PcLook, o, "the epoch as it was", asIs, to(impl.PcFree))
		all.add(impl.PcLook, o, "another epoch", seenIs(2), seenIs(epochThen), to(impl.PcFree))
	}
	addScans(all)
	addAdvances(all)
	addFrees(all)
	return all
}

// At PcPin a hand may be pinned in any epoch.
func pinnedAny(k, pin int) turn {
	return func(w *impl.WldWorld, _ *impl.HndHand) {
		w.Hands[k] = busyHandAt(impl.PcPin, getOp)
		w.Pool.Pins[k] = pin
	}
}

func addScans(all cases) {
	for pin := range epochThen + 2 {
		for seen := range epochThen + 1 {
			name := fmt.Sprint("pin ", pin, ", seen ", seen)
			first, last := impl.PcScan, impl.PcAdvance
			if pin != 0 && pin != seen+1 {
				first, last = impl.PcLook, impl.PcLook
			}
			all.add(impl.PcScan, clearOp, "the first hand, "+name, and(pinnedAny(0, pin), seenIs(seen), scanIs(0)), scanIs(1), to(first))
			all.add(impl.PcScan, clearOp, "the last hand, "+name, and(pinnedAny(2, pin), seenIs(seen), scanIs(2)), scanIs(3), to(last))
			all.add(impl.PcScan, clearOp, "the hand itself, others "+name, and(pinnedAny(0, pin), pinnedAny(2, pin), seenIs(seen), scanIs(1)), scanIs(2), to(impl.PcScan))
		}
	}
}

func addAdvances(all cases) {
	all.add(impl.PcAdvance, clearOp, "the epoch is that which was seen", asIs, epochIs(epochThen+1), to(impl.PcLook))
	for _, seen := range []int{0, 3, 4} {
		all.add(impl.PcAdvance, clearOp, fmt.Sprint("the epoch has gone on from ", seen), seenIs(seen), to(impl.PcLook))
	}
	last, most := impl.PolMost-1, impl.PolMost
	all.add(impl.PcAdvance, clearOp, "the first epoch", inEpoch(0), epochIs(1), to(impl.PcLook))
	all.add(impl.PcAdvance, clearOp, "one ahead of the last epoch", and(inEpoch(last), seenIs(last)), epochIs(most), to(impl.PcLook))
	all.add(impl.PcAdvance, clearOp, "the last epoch", and(inEpoch(most), seenIs(most)), to(impl.PcLook))
	all.add(impl.PcAdvance, clearOp, "the last epoch, not yet seen", and(inEpoch(most), seenIs(last)), to(impl.PcLook))
	all.add(impl.PcLook, clearOp, "the last epoch", inEpoch(most), seenIs(most), to(impl.PcFree))
}

func addFrees(all cases) {
	three := takenIs(acting, 7, 4, 3, 3, 9, 1)
	end := and(becomesSo(yes(0)), to(impl.PcEnd))
	all.add(impl.PcFree, clearOp, "the only one", asIs, free(7), takenIs(acting))
	all.add(impl.PcFree, clearOp, "just two epochs ago", takenIs(acting, 7, 3), free(7), takenIs(acting))
	all.add(impl.PcFree, clearOp, "one epoch ago", takenIs(acting, 7, 4), end)
	all.add(impl.PcFree, clearOp, "in this epoch", takenIs(acting, 7, 5), end)
	all.add(impl.PcFree, clearOp, "none", takenIs(acting), end)
	all.add(impl.PcFree, clearOp, "the second of three", three, free(3), takenIs(acting, 7, 4, 9, 1))
	all.add(impl.PcFree, clearOp, "the third of three, by what was seen", and(three, seenIs(4)), free(9), takenIs(acting, 7, 4, 3, 3))
	all.add(impl.PcFree, clearOp, "none of three, by what was seen", and(three, seenIs(2)), end)
	all.add(impl.PcFree, clearOp, "the first of those that are free", takenIs(acting, 7, 0, 3, 1), free(7), takenIs(acting, 3, 1))
	all.add(impl.PcFree, clearOp, "those of others stay", and(takenIs(0, 3, 0), takenIs(acting), takenIs(2, 9, 0)), end)
	all.add(impl.PcFree, clearOp, "its own alone", and(takenIs(0, 3, 0), takenIs(acting, 7, 0), takenIs(2, 9, 0)), free(7), takenIs(acting))
}

func TestStepsOfEpochs(t *testing.T) {
	checkSteps(t, epochCases())
}

func TestStepsOfWhoClearsUp(t *testing.T) {
	checkSteps(t, clearCases())
}
