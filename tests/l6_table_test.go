package tests

import (
	"fmt"
	"slices"

	"loop.example/tuggers/impl"
)

// The document's table of steps once more, row by row and of any world whose lists are as long as they are to be: what a run, a round and a tidying do with a world that is not ok any more is held against it, as WldStep leaves nothing of that.

// table is a step of a hand: the world is a copy, in which it writes.
type table struct {
	w *impl.WldWorld
	h *impl.HndHand
	k int
}

// tableDo is what happens.
func tableDo(w impl.WldWorld, e impl.EvEvent) impl.WldWorld {
	w = cloneWorld(w)
	k := e.Hand
	if k < 0 || k >= impl.PolHands {
		return w
	}
	if e.Op.Kind != 0 {
		w.Hands[k] = impl.HndBegin(w.Hands[k], e.Op, w.Clock)
		return w
	}
	if w.Hands[k].Pc == impl.PcIdle || w.Clock >= impl.ClkMost {
		return w
	}
	w.Clock++
	h := w.Hands[k]
	table{w: &w, h: &h, k: k}.step()
	w.Hands[k] = h
	return w
}

// isPlaceAt is of places but for the head: any other one is none.
func isPlaceAt(r impl.HndRef) bool {
	return r.At >= 1 && r.At <= impl.ArnSize
}

// placeOf is a place that is held; 0, if it is none.
func placeOf(r impl.HndRef) int {
	if isPlaceAt(r) {
		return r.At
	}
	return 0
}

func (s table) node(r impl.HndRef) *impl.ArnNode {
	return &s.w.Arena.Nodes[placeOf(r)]
}

func (s table) see(place int) impl.HndRef {
	return impl.HndRef{At: place, Gen: s.w.Arena.Nodes[place].Gen}
}

func leadsTo(r impl.HndRef) int {
	return 2 * placeOf(r)
}

// either is one of two.
func either(first bool, one, other int) int {
	if first {
		return one
	}
	return other
}

func (s table) to(pc int) {
	s.h.Pc = pc
}

func (s table) becomesSo(res impl.ResRes) {
	s.h.Res, s.h.Point, s.h.Done = res, s.w.Clock, true
}

// turn turns a place's word, if it is one, and counts that.
func (s table) turn(r impl.HndRef, old, word int) bool {
	n := s.node(r)
	if n.Word != old {
		return false
	}
	n.Word = word
	n.Ver++
	return true
}

// turnWord is turn to another word, or to where a hand goes on, if not.
func (s table) turnWord(r impl.HndRef, old, word, ifNot int) bool {
	if s.turn(r, old, word) {
		return true
	}
	s.to(ifNot)
	return false
}

// turnEnd turns Top, First or Last, if it is Curr.
func (s table) turnEnd(end *int, to, ifNot int) bool {
	if *end != placeOf(s.h.Curr) {
		s.to(ifNot)
		return false
	}
	*end = to
	return true
}

func (s table) takeOut() {
	s.h.Old, s.h.Curr = s.h.Curr, impl.HndRef{}
}

func (s table) goes(from impl.HndRef, word, time int) {
	s.h.Pred, s.h.Curr = from, s.see(word/2)
	if !s.h.Done {
		s.h.Point = time
	}
}

func (s table) hasFound(there bool, val int) {
	h := s.h
	kind := h.Op.Kind
	switch {
	case h.Done || kind == impl.OpClear:
		s.to(impl.PcUnpin)
		return
	case kind == impl.OpPut && !there:
		s.to(either(isPlaceAt(h.Own), impl.PcFill, impl.PcTake))
		return
	case kind == impl.OpDel && there:
		h.Res = yes(val)
		s.to(impl.PcMark)
		return
	}
	h.Res, h.Done = no, true
	if kind == impl.OpGet && there {
		h.Res = yes(val)
	}
	s.to(either(isPlaceAt(h.Own), impl.PcGive, impl.PcUnpin))
}

// counts goes by a place that is counted, or by the head.
func (s table) counts(place int) {
	h, n := s.h, s.w.Arena.Nodes[place]
	h.Trace += fmt.Sprintf("%d:%d:%d;", place, n.Word, n.Ver)
	if place != 0 && n.Word%2 == 0 && n.Key >= h.Op.Key {
		h.Num++
	}
	h.Curr = s.see(n.Word / 2)
	s.to(impl.PcCount)
	if n.Word/2 != 0 {
		return
	}
	s.to(impl.PcWalk)
	if h.Trace == h.Last {
		h.Res, h.Point, h.Done = yes(h.Num), h.Mid, true
		s.to(impl.PcUnpin)
	}
	h.Last, h.Mid = h.Trace, s.w.Clock
}

func (s table) step() {
	for _, rows := range []func() bool{s.epochRows, s.mapRows, s.turnRows, s.clearRows, s.stackRows, s.lastRows, s.firstRows, s.countRows} {
		if rows() {
			return
		}
	}
	panic(fmt.Sprint("there is no row for ", s.h.Pc))
}

func (s table) epochRows() bool {
	w, h := s.w, s.h
	switch h.Pc {
	case impl.PcEpoch:
		h.Seen = w.Pool.Epoch
		s.to(impl.PcPin)
	case impl.PcPin:
		w.Pool.Pins[s.k] = h.Seen + 1
		s.to(impl.PcCheck)
	case impl.PcCheck:
		ways := map[int]int{
			impl.OpPush: impl.PcTake, impl.OpEnter: impl.PcTake, impl.OpPop: impl.PcTop, impl.OpTop: impl.PcTop,
			impl.OpLeave: impl.PcFirst, impl.OpFront: impl.PcFirst, impl.OpCount: impl.PcWalk,
		}
		way, named := ways[h.Op.Kind]
		s.to(either(w.Pool.Epoch != h.Seen, impl.PcEpoch, either(named, way, impl.PcHead)))
	case impl.PcUnpin:
		w.Pool.Pins[s.k] = 0
		s.to(either(h.Op.Kind == impl.OpClear, impl.PcRead, impl.PcEnd))
	case impl.PcEnd:
		if len(w.Log) < impl.LogMost {
			w.Log = append(w.Log, impl.LogRec{Hand: s.k, Op: h.Op, Res: h.Res, Begin: h.Begin, Point: h.Point, End: w.Clock})
		}
		*h = impl.HndHand{}
	default:
		return false
	}
	return true
}

func (s table) mapRows() bool {
	h := s.h
	key := either(h.Op.Kind == impl.OpClear, 100, h.Op.Key)
	switch h.Pc {
	case impl.PcHead:
		s.goes(impl.HndRef{}, s.w.Arena.Nodes[0].Word, s.w.Clock)
		s.to(impl.PcNext)
	case impl.PcNext:
		if !isPlaceAt(h.Curr) {
			s.hasFound(false, 0)
			return true
		}
		h.Succ, h.Read = s.node(h.Curr).Word, s.w.Clock
		s.to(either(h.Succ%2 == 1, impl.PcUnlink, impl.PcKey))
	case impl.PcKey:
		n := *s.node(h.Curr)
		if n.Key < key {
			s.goes(h.Curr, h.Succ, h.Read)
			s.to(impl.PcNext)
			return true
		}
		if n.Key == key && !h.Done {
			h.Point = h.Read
		}
		if h.Op.Kind == impl.OpNext {
			h.Res, h.Done = yes(n.Key), true
			s.to(impl.PcUnpin)
			return true
		}
		s.hasFound(n.Key == key, n.Val)
	default:
		return false
	}
	return true
}

func (s table) turnRows() bool {
	w, h := s.w, s.h
	switch h.Pc {
	case impl.PcUnlink:
		if s.turnWord(h.Pred, leadsTo(h.Curr), h.Succ/2*2, impl.PcHead) {
			s.takeOut()
			s.goes(h.Pred, h.Succ, w.Clock)
			s.to(impl.PcRetire)
		}
	case impl.PcRetire:
		if isPlaceAt(h.Old) {
			w.Pool.Limbo[s.k] = append(w.Pool.Limbo[s.k], impl.PolOld{Node: h.Old.At, Epoch: w.Pool.Epoch})
		}
		h.Old = impl.HndRef{}
		s.to(either(h.Done && !isPlaceAt(h.Curr), impl.PcUnpin, impl.PcNext))
	case impl.PcTake:
		place := slices.IndexFunc(w.Arena.Nodes, func(n impl.ArnNode) bool { return !n.Used })
		if place < 0 {
			s.becomesSo(full)
			s.to(impl.PcUnpin)
			return true
		}
		w.Arena.Nodes[place] = impl.ArnNode{Used: true, Gen: w.Arena.Nodes[place].Gen + 1}
		h.Own = s.see(place)
		s.to(impl.PcFill)
	case impl.PcFill:
		n := s.node(h.Own)
		n.Key, n.Val, n.Word = h.Op.Key, h.Op.Val, leadsTo(h.Curr)
		s.to(either(h.Op.Kind == impl.OpPush, impl.PcTop, either(h.Op.Kind == impl.OpEnter, impl.PcLast, impl.PcLink)))
	case impl.PcLink:
		if s.turnWord(h.Pred, leadsTo(h.Curr), leadsTo(h.Own), impl.PcHead) {
			h.Own = impl.HndRef{}
			s.becomesSo(yes(0))
			s.to(impl.PcUnpin)
		}
	case impl.PcMark:
		if s.turnWord(h.Curr, h.Succ, h.Succ|1, impl.PcHead) {
			s.becomesSo(h.Res)
			s.to(impl.PcCut)
		}
	case impl.PcCut:
		if s.turnWord(h.Pred, leadsTo(h.Curr), h.Succ, impl.PcHead) {
			s.takeOut()
			s.to(impl.PcRetire)
		}
	case impl.PcGive:
		s.give(placeOf(h.Own))
		h.Own = impl.HndRef{}
		s.to(impl.PcUnpin)
	default:
		return false
	}
	return true
}

func (s table) give(place int) {
	if n := &s.w.Arena.Nodes[place]; place != 0 && n.Used {
		*n = impl.ArnNode{Gen: n.Gen}
	}
}

func (s table) clearRows() bool {
	w, h := s.w, s.h
	switch h.Pc {
	case impl.PcRead:
		h.Seen, h.Scan = w.Pool.Epoch, 0
		s.to(impl.PcScan)
	case impl.PcScan:
		pin := w.Pool.Pins[h.Scan]
		h.Scan++
		s.to(either(pin != 0 && pin != h.Seen+1, impl.PcLook, either(h.Scan == 3, impl.PcAdvance, impl.PcScan)))
	case impl.PcAdvance:
		if w.Pool.Epoch == h.Seen && w.Pool.Epoch < impl.PolMost {
			w.Pool.Epoch++
		}
		s.to(impl.PcLook)
	case impl.PcLook:
		h.Seen = w.Pool.Epoch
		s.to(impl.PcFree)
	case impl.PcFree:
		first := impl.PolFree(w.Pool, s.k, h.Seen)
		if first < 0 {
			s.becomesSo(yes(0))
			s.to(impl.PcEnd)
			return true
		}
		s.give(w.Pool.Limbo[s.k][first].Node)
		w.Pool.Limbo[s.k] = slices.Delete(w.Pool.Limbo[s.k], first, first+1)
	default:
		return false
	}
	return true
}

func (s table) stackRows() bool {
	w, h := s.w, s.h
	switch h.Pc {
	case impl.PcTop:
		h.Curr = s.see(w.Arena.Top)
		s.to(either(h.Op.Kind == impl.OpPush, impl.PcAim, impl.PcBelow))
		if h.Op.Kind != impl.OpPush && !isPlaceAt(h.Curr) {
			s.becomesSo(no)
			s.to(impl.PcUnpin)
		}
	case impl.PcAim:
		if isPlaceAt(h.Own) {
			s.node(h.Own).Word = leadsTo(h.Curr)
		}
		s.to(impl.PcPush)
	case impl.PcPush:
		if s.turnEnd(&w.Arena.Top, placeOf(h.Own), impl.PcTop) {
			h.Own = impl.HndRef{}
			s.becomesSo(yes(0))
			s.to(impl.PcUnpin)
		}
	case impl.PcBelow:
		h.Succ, h.Res = s.node(h.Curr).Word, yes(s.node(h.Curr).Val)
		s.to(either(h.Op.Kind == impl.OpTop, impl.PcPeek, impl.PcPop))
	case impl.PcPop:
		if s.turnEnd(&w.Arena.Top, h.Succ/2, impl.PcTop) {
			s.becomesSo(h.Res)
			s.takeOut()
			s.to(impl.PcRetire)
		}
	case impl.PcPeek:
		if s.turnEnd(&w.Arena.Top, w.Arena.Top, impl.PcTop) {
			s.becomesSo(h.Res)
			s.to(impl.PcUnpin)
		}
	default:
		return false
	}
	return true
}

func (s table) lastRows() bool {
	w, h := s.w, s.h
	switch h.Pc {
	case impl.PcLast:
		h.Curr = s.see(w.Arena.Last)
		s.to(impl.PcBehind)
	case impl.PcBehind:
		h.Succ = s.node(h.Curr).Word
		s.to(either(h.Succ == 0, impl.PcJoin, impl.PcHelp))
	case impl.PcHelp:
		s.turnEnd(&w.Arena.Last, h.Succ/2, 0)
		s.to(either(h.Op.Kind == impl.OpLeave, impl.PcFirst, impl.PcLast))
	case impl.PcJoin:
		if s.turnWord(h.Curr, 0, leadsTo(h.Own), impl.PcLast) {
			h.Succ, h.Own = leadsTo(h.Own), impl.HndRef{}
			s.becomesSo(yes(0))
			s.to(impl.PcSwing)
		}
	case impl.PcSwing:
		s.turnEnd(&w.Arena.Last, h.Succ/2, 0)
		s.to(impl.PcUnpin)
	default:
		return false
	}
	return true
}

func (s table) firstRows() bool {
	w, h := s.w, s.h
	switch h.Pc {
	case impl.PcFirst:
		h.Curr = s.see(w.Arena.First)
		s.to(impl.PcAfter)
	case impl.PcAfter:
		h.Succ = s.node(h.Curr).Word
		h.Pred = s.see(h.Succ / 2)
		s.to(either(h.Op.Kind == impl.OpFront, impl.PcValue, impl.PcTail))
		if h.Succ == 0 {
			s.becomesSo(no)
			s.to(impl.PcUnpin)
		}
	case impl.PcTail:
		s.to(either(w.Arena.Last == placeOf(h.Curr), impl.PcHelp, impl.PcValue))
	case impl.PcValue:
		h.Res = yes(s.node(h.Pred).Val)
		s.to(either(h.Op.Kind == impl.OpFront, impl.PcSee, impl.PcShift))
	case impl.PcShift:
		if s.turnEnd(&w.Arena.First, placeOf(h.Pred), impl.PcFirst) {
			s.becomesSo(h.Res)
			s.takeOut()
			s.to(impl.PcRetire)
		}
	case impl.PcSee:
		if s.turnEnd(&w.Arena.First, w.Arena.First, impl.PcFirst) {
			s.becomesSo(h.Res)
			s.to(impl.PcUnpin)
		}
	default:
		return false
	}
	return true
}

func (s table) countRows() bool {
	switch s.h.Pc {
	case impl.PcWalk:
		s.h.Trace, s.h.Num = "", 0
		s.counts(0)
	case impl.PcCount:
		s.counts(placeOf(s.h.Curr))
	default:
		return false
	}
	return true
}
