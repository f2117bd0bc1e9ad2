package tests

import (
	"slices"
	"strconv"
	"testing"

	"loop.example/tuggers/impl"
)

// script is what a hand is asked next, by what it was answered so far; false, if that is all.
type script func(answers []impl.ResRes) (impl.OpOp, bool)

// asks is a script of things that are asked one behind the other, whatever is answered.
func asks(all ...impl.OpOp) script {
	return func(answers []impl.ResRes) (impl.OpOp, bool) {
		if len(answers) == len(all) {
			return impl.OpOp{}, false
		}
		return all[len(answers)], true
	}
}

// spot is a world, as far as it matters for what comes, in a form that can be held against others. Of times just their order may be told, or nothing at all: no step goes by them.
type spot struct {
	nodes [impl.ArnSize + 1]impl.ArnNode
	ends  [3]int
	epoch int
	pins  [impl.PolHands]int
	hands [impl.PolHands]impl.HndHand
	lists string
	keys  seenKeys
}

// seenKeys are bits of the keys, up to 63, that were there at each time, and at some.
type seenKeys struct {
	always, ever uint64
}

func keysOfNow(w impl.WldWorld) uint64 {
	var keys uint64
	for key := range keysOf(w) {
		keys |= 1 << key
	}
	return keys
}

// ranks are times, each as its place among all of them.
type ranks []int

// ranksOf are the times of hands and answers; none, if their order is not asked for.
func ranksOf(hands []impl.HndHand, log []impl.LogRec, inOrder bool) ranks {
	if !inOrder {
		return nil
	}
	var all ranks
	for _, h := range hands {
		all = append(all, h.Begin, h.Point, h.Read, h.Mid)
	}
	for _, r := range log {
		all = append(all, r.Begin, r.Point, r.End)
	}
	slices.Sort(all)
	return slices.Compact(all)
}

func (all ranks) of(time int) int {
	at, _ := slices.BinarySearch(all, time)
	return at
}

// spotOf is of a world, and of what was answered since the beginning.
func spotOf(w impl.WldWorld, log []impl.LogRec, inOrder bool, keys seenKeys) spot {
	s := spot{ends: [3]int{w.Arena.Top, w.Arena.First, w.Arena.Last}, epoch: w.Pool.Epoch, keys: keys}
	copy(s.nodes[:], w.Arena.Nodes)
	copy(s.pins[:], w.Pool.Pins)
	all := ranksOf(w.Hands, log, inOrder)
	for k, h := range w.Hands {
		h.Begin, h.Point, h.Read, h.Mid = all.of(h.Begin), all.of(h.Point), all.of(h.Read), all.of(h.Mid)
		s.hands[k] = h
	}
	var lists []byte
	note := func(numbers ...int) {
		for _, n := range numbers {
			lists = append(strconv.AppendInt(lists, int64(n), 10), ' ')
		}
	}
	for _, taken := range w.Pool.Limbo {
		note(len(taken))
		for _, old := range taken {
			note(old.Node, old.Epoch)
		}
	}
	for _, r := range log {
		note(r.Hand, r.Op.Kind, r.Op.Key, r.Op.Val, r.Res.Code, r.Res.Val, all.of(r.Begin), all.of(r.Point), all.of(r.End))
	}
	s.lists = string(lists)
	return s
}

// orders goes through all orders in which some hands may take their turns, each till it has come to the end of its script; those without a script stand still. To a world to which two orders lead it goes on from once.
type orders struct {
	t       *testing.T
	from    impl.WldWorld
	scripts [impl.PolHands]script
	// watch looks at each step, if it is there, and end at each end.
	watch func(h happening)
	end   func(is impl.WldWorld, keys seenKeys)
	// inOrder tells worlds apart by the order of their times too, withKeys by which keys were there.
	inOrder  bool
	withKeys bool
	seen     map[spot]bool
}

// answersOf is what a hand answered since the beginning.
func (o *orders) answersOf(w impl.WldWorld, k int) []impl.ResRes {
	var all []impl.ResRes
	for _, r := range w.Log[len(o.from.Log):] {
		if r.Hand == k {
			all = append(all, r.Res)
		}
	}
	return all
}

// turn is the world behind one more step of a hand, which is asked the next thing, if it is idle; false, if there is none.
func (o *orders) turn(w impl.WldWorld, k int) (impl.WldWorld, bool) {
	if o.scripts[k] == nil {
		return w, false
	}
	if w.Hands[k].Pc == impl.PcIdle {
		asked, more := o.scripts[k](o.answersOf(w, k))
		if !more {
			return w, false
		}
		w = impl.WldCall(w, k, asked)
	}
	is := impl.WldStep(w, k)
	if len(is.Hands) != impl.PolHands {
		o.t.Fatalf("a step of hand %d leaves nothing of %+v", k, w)
	}
	if o.watch != nil {
		o.watch(happening{was: w, event: stepOf(k), is: is})
	}
	return is, true
}

func (o *orders) spotOf(w impl.WldWorld, keys seenKeys) spot {
	return spotOf(w, w.Log[len(o.from.Log):], o.inOrder, keys)
}

func (o *orders) goOn(w impl.WldWorld, keys seenKeys) {
	s := o.spotOf(w, keys)
	if o.seen[s] {
		return
	}
	o.seen[s] = true
	ended := true
	for k := range impl.PolHands {
		is, goes := o.turn(w, k)
		if !goes {
			continue
		}
		ended = false
		now := keys
		if o.withKeys {
			there := keysOfNow(is)
			now = seenKeys{always: keys.always & there, ever: keys.ever | there}
		}
		o.goOn(is, now)
	}
	if ended {
		o.end(w, keys)
	}
}

// goThrough begins; it is how many worlds there are on all ways.
func (o *orders) goThrough() int {
	o.seen = map[spot]bool{}
	keys := seenKeys{}
	if o.withKeys {
		keys = seenKeys{always: keysOfNow(o.from), ever: keysOfNow(o.from)}
	}
	o.goOn(o.from, keys)
	return len(o.seen)
}

// Both ways in which two hands can come to the same key are gone: each is the first once; and no order is left out that steps at random find.
func TestOrdersAreAll(t *testing.T) {
	from := alone(t, impl.WldNew(), 2, op(impl.OpPut, 10, 1))
	scripts := [impl.PolHands]script{asks(op(impl.OpDel, 10), op(impl.OpPut, 10, 5)), asks(op(impl.OpPut, 10, 6)), nil}
	ends := map[spot]bool{}
	o := &orders{t: t, from: from, scripts: scripts}
	o.end = func(is impl.WldWorld, _ seenKeys) { ends[o.spotOf(is, seenKeys{})] = true }
	if size := o.goThrough(); size < 200 {
		t.Errorf("there are just %d worlds", size)
	}
	for n := range 2000 {
		c := chance(n)
		w := from
		for goes := [2]bool{true, true}; goes[0] || goes[1]; {
			k := c.below(2)
			// Each goes on for a while, so that late ones come between too.
			for range 1 + c.below(1+n%9) {
				w, goes[k] = o.turn(w, k)
			}
		}
		if !ends[o.spotOf(w, seenKeys{})] {
			t.Fatalf("nobody went by %d: %v", n, w.Log)
		}
	}
	if len(ends) < 3 {
		t.Errorf("there are just %d ends", len(ends))
	}
}
