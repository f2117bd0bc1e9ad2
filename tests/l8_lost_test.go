package tests

import (
	"slices"
	"testing"

	"loop.example/tuggers/impl"
)

// P39, P3

// whereIs puts a place of an idle world that is in use, and nowhere, somewhere else.
type whereIs func(w *impl.WldWorld, at int)

func isFree(w *impl.WldWorld, at int) {
	w.Arena.Nodes[at] = impl.ArnNode{Gen: w.Arena.Nodes[at].Gen}
}

func isNowhere(*impl.WldWorld, int) {}

func isTakenOutBy(k int) whereIs {
	return func(w *impl.WldWorld, at int) {
		w.Pool.Limbo[k] = append(w.Pool.Limbo[k], impl.PolOld{Node: at, Epoch: 1})
	}
}

func isOwnOf(k int) whereIs {
	return func(w *impl.WldWorld, at int) {
		isAsked(w, k)
		w.Hands[k].Own = ref(at)
	}
}

func isOldOf(k int) whereIs {
	return func(w *impl.WldWorld, at int) {
		isAsked(w, k)
		w.Hands[k].Old = ref(at)
	}
}

// isAsked lets a hand be where it may hold a place of its own, as who is idle holds none.
func isAsked(w *impl.WldWorld, k int) {
	if w.Hands[k].Pc == impl.PcIdle {
		w.Hands[k] = impl.HndHand{Pc: impl.PcEpoch, Op: putOp}
	}
}

// settle lets hands that have an Old be where that may be: ahead of noting it.
func settle(w *impl.WldWorld) {
	for k, h := range w.Hands {
		if h.Old.At != 0 {
			w.Hands[k].Pc = impl.PcRetire
			w.Pool.Pins[k] = w.Pool.Epoch + 1
		}
	}
}

// looseWorld has all hands idle, three places that are in use, and nowhere, 3, 7 and 9, and no place taken out; the place 2 is marked, and still in the map.
func looseWorld() impl.WldWorld {
	w := idleWorld()
	w.Pool.Limbo = make([][]impl.PolOld, impl.PolHands)
	w.Arena = marked(w.Arena, 2)
	return w
}

var loose = []int{3, 7, 9}

// somewhere are all ways in which a place may be somewhere, by itself; and to be nowhere.
func somewhere() map[string]whereIs {
	return map[string]whereIs{
		"nowhere": isNowhere, "free": isFree,
		"out by 0": isTakenOutBy(0), "out by 1": isTakenOutBy(1), "out by 2": isTakenOutBy(2),
		"Own of 0": isOwnOf(0), "Own of 1": isOwnOf(1), "Own of 2": isOwnOf(2),
		"Old of 0": isOldOf(0), "Old of 1": isOldOf(1), "Old of 2": isOldOf(2),
	}
}

// eachWhereabouts hands out worlds with each of the three places somewhere, or nowhere: those that are lost; no place is in two.
func eachWhereabouts(do func(w impl.WldWorld, lost []int, names []string)) {
	all := somewhere()
	for first, is := range all {
		for second, isToo := range all {
			for third, isThird := range all {
				names := []string{first, second, third}
				if heldAlike(names) {
					continue
				}
				w := looseWorld()
				var lost []int
				for n, put := range []whereIs{is, isToo, isThird} {
					put(&w, loose[n])
					if names[n] == "nowhere" {
						lost = append(lost, loose[n])
					}
				}
				settle(&w)
				do(w, lost, names)
			}
		}
	}
}

func isHeldName(name string) bool {
	return name[0] == 'O'
}

// heldAlike says whether a hand would hold two places as one.
func heldAlike(names []string) bool {
	held := slices.DeleteFunc(slices.Clone(names), func(name string) bool { return !isHeldName(name) })
	slices.Sort(held)
	return len(slices.Compact(slices.Clone(held))) < len(held)
}

func TestLostIsWhatIsNowhere(t *testing.T) {
	count := 0
	eachWhereabouts(func(w impl.WldWorld, lost []int, names []string) {
		count++
		wantWorldOk(t, w, true, names)
		wantAudit(t, w, lost, false, names)
		wantInts(t, plainLost(w), lost, "by hand", names)
	})
	if count < 900 {
		t.Errorf("just %d worlds", count)
	}
}

func TestNothingIsLostAtFirst(t *testing.T) {
	wantAudit(t, impl.WldNew(), nil, false, "new")
}

// Each place of map, stack and queue is there, marked or not; that ahead of the queue's values too.
func TestLostOfPlacesThatAreOk(t *testing.T) {
	for name, a := range okArenas() {
		w := impl.WldNew()
		w.Arena = a
		var lost []int
		for at := 1; at <= impl.ArnSize; at++ {
			if a.Nodes[at].Used && !slices.Contains(inAll(a), at) {
				lost = append(lost, at)
			}
		}
		wantAudit(t, w, lost, false, name)
	}
}

// To take all out of a map, a stack and a queue is to lose all but that ahead of the queue's values.
func TestLostOfWhatWasLinked(t *testing.T) {
	a := laid([]int{1, 2, 3}, []int{4, 5, 6}, []int{7, 8, 9})
	w := impl.WldNew()
	w.Arena = a
	wantAudit(t, w, nil, false, "all are linked")
	w.Arena = turned(a, func(a *impl.ArnArena) { a.Nodes[0].Word = 4 })
	wantAudit(t, w, []int{1}, false, "the map begins later")
	w.Arena = turned(a, func(a *impl.ArnArena) { a.Nodes[2].Word = 0 })
	wantAudit(t, w, []int{3}, false, "the map ends earlier")
	w.Arena = turned(a, func(a *impl.ArnArena) { a.Top = 6 })
	wantAudit(t, w, []int{4, 5}, false, "the stack begins later")
	w.Arena = turned(a, func(a *impl.ArnArena) { a.First = 9 })
	wantAudit(t, w, []int{7, 8}, false, "the queue begins later")
	w.Arena = turned(a, func(a *impl.ArnArena) { a.Nodes[7].Word, a.Last = 0, 7 })
	wantAudit(t, w, []int{8, 9}, false, "the queue ends earlier")
	w.Arena = turned(a, func(a *impl.ArnArena) { a.Nodes[0].Word, a.Top, a.First = 0, 0, 9 })
	wantAudit(t, w, []int{1, 2, 3, 4, 5, 6, 7, 8}, false, "there is nothing")
}

// Of a world that is not ok nothing is told, though places are nowhere, and in two.
func TestAuditsOfWorldsThatAreNotOk(t *testing.T) {
	for name, w := range wrongWorlds() {
		if len(w.Hands) > 0 && len(w.Arena.Nodes) > 3 {
			w.Hands[0].Own = ref(4)
		}
		wantWorldOk(t, w, false, name)
		wantAudit(t, w, nil, false, name)
	}
	ok := busyWorld(impl.PcKey, getOp)
	ok.Hands[0].Own = ref(4)
	wantAudit(t, ok, []int{3, 9}, true, "but for that it is told")
	for name, a := range anyArenas() {
		w := impl.WldNew()
		w.Arena = a
		if !impl.ArnOk(a) {
			wantAudit(t, w, nil, false, name)
		}
	}
	for name, p := range wrongPools() {
		w := impl.WldNew()
		fill(w.Arena.Nodes)
		w.Pool = p
		wantAudit(t, w, nil, false, name)
	}
}

// twos are two ways each in which one place is somewhere, of a world that may have both.
func twos() map[string][]whereIs {
	all := map[string][]whereIs{}
	held := map[string]whereIs{}
	for name, is := range somewhere() {
		if isHeldName(name) {
			held[name] = is
		}
	}
	for one, is := range held {
		for other, isToo := range held {
			if one < other {
				all[one+", "+other] = []whereIs{is, isToo}
			}
		}
		for k := range impl.PolHands {
			all[one+", and taken out by "+string(rune('0'+k))] = []whereIs{is, isTakenOutBy(k)}
		}
	}
	return all
}

func TestTwiceIsWhatIsHeldTwiceOrTakenOut(t *testing.T) {
	for name, two := range twos() {
		for _, at := range loose {
			w := looseWorld()
			for _, is := range two {
				is(&w, at)
			}
			settle(&w)
			wantWorldOk(t, w, true, name)
			wantAudit(t, w, slices.DeleteFunc(slices.Clone(loose), func(other int) bool { return other == at }), true, name, at)
			if !plainTwice(w) {
				t.Errorf("%s: place %d is not twice by hand", name, at)
			}
		}
	}
}

// Who holds what is in map, stack or queue has it in two; but who just saw it has not.
func TestTwiceIsWhatIsHeldAndLinked(t *testing.T) {
	for _, at := range []int{4, 2, 8, 1, 6, 5} {
		for name, is := range somewhere() {
			if !isHeldName(name) {
				continue
			}
			w := looseWorld()
			is(&w, at)
			settle(&w)
			wantWorldOk(t, w, true, name, at)
			wantAudit(t, w, loose, true, name, at)
		}
		w := looseWorld()
		w.Hands[1] = impl.HndHand{Pc: impl.PcKey, Op: putOp, Pred: ref(at), Curr: ref(at)}
		w.Pool.Pins[1] = epochThen
		wantWorldOk(t, w, true, "seen", at)
		wantAudit(t, w, loose, false, "seen", at)
	}
}

// A world in which a place is in two others is not ok, and so it is not told.
func TestTwiceThatNoWorldHas(t *testing.T) {
	cases := map[string]func(*impl.WldWorld){
		"in map and stack":         func(w *impl.WldWorld) { w.Arena.Top = 4 },
		"in map and queue":         func(w *impl.WldWorld) { w.Arena.First, w.Arena.Last = 2, 2 },
		"in stack and queue":       func(w *impl.WldWorld) { w.Arena.Top = 6 },
		"in the map, not in use":   func(w *impl.WldWorld) { w.Arena.Nodes[4].Used = false },
		"on the stack, not in use": func(w *impl.WldWorld) { w.Arena.Nodes[8].Used = false },
		"in the queue, not in use": func(w *impl.WldWorld) { w.Arena.Nodes[5].Used = false },
		"in the map, taken out":    func(w *impl.WldWorld) { isTakenOutBy(0)(w, 4) },
		"on the stack, taken out":  func(w *impl.WldWorld) { isTakenOutBy(1)(w, 1) },
		"in the queue, taken out":  func(w *impl.WldWorld) { isTakenOutBy(2)(w, 6) },
		"taken out twice":          func(w *impl.WldWorld) { isTakenOutBy(2)(w, 9); isTakenOutBy(2)(w, 9) },
		"taken out by two":         func(w *impl.WldWorld) { isTakenOutBy(0)(w, 9); isTakenOutBy(1)(w, 9) },
		"taken out, not in use":    func(w *impl.WldWorld) { isTakenOutBy(0)(w, 9); isFree(w, 9) },
		"held, not in use":         func(w *impl.WldWorld) { isOwnOf(1)(w, 9); isFree(w, 9) },
		"held to note, not in use": func(w *impl.WldWorld) { isOldOf(1)(w, 9); isFree(w, 9) },
	}
	for name, how := range cases {
		w := turnedWorld(looseWorld(), how)
		settle(&w)
		wantWorldOk(t, w, false, name)
		wantAudit(t, w, nil, false, name)
	}
}

// Each of three hands may hold all that there is.
func TestTwiceOfMany(t *testing.T) {
	for _, at := range loose {
		w := looseWorld()
		for k := range impl.PolHands {
			isOwnOf(k)(&w, at)
			isOldOf(k)(&w, at)
		}
		settle(&w)
		wantAudit(t, w, slices.DeleteFunc(slices.Clone(loose), func(other int) bool { return other == at }), true, "held six times", at)
	}
}

// The head is held too, but is none of these; and so is what there is not.
func TestTwiceIsNotOfWhatIsNone(t *testing.T) {
	for _, none := range noRefs() {
		w := looseWorld()
		for k := range impl.PolHands {
			isAsked(&w, k)
			w.Hands[k].Own, w.Hands[k].Old = none, none
		}
		wantWorldOk(t, w, true, none)
		wantAudit(t, w, loose, false, none)
	}
}

func TestAuditsOfWildWorlds(t *testing.T) {
	lost, twice := map[int]int{}, map[bool]int{}
	for n := range 6000 {
		c := wild{chance(n)}
		w := c.world()
		lost[len(plainLost(w))]++
		twice[plainTwice(w)]++
		wantAudit(t, w, plainLost(w), plainTwice(w), "world", n)
	}
	if len(lost) < 4 || twice[true] < 100 || twice[false] < 100 {
		t.Errorf("lost: %v, twice: %v", lost, twice)
	}
}

// What a run comes to loses just what is lost there on purpose.
func TestLostOfRuns(t *testing.T) {
	eachWorld(t, 7, func(n int, w impl.WldWorld) {
		w = cloneWorld(w)
		var want []int
		lose := func(at int) {
			w.Arena.Nodes[at].Used = true
			want = append(want, at)
		}
		for at, node := range w.Arena.Nodes {
			if !node.Used && (n+at)%3 != 0 {
				lose(at)
			}
		}
		for k, taken := range w.Pool.Limbo {
			if len(taken) > 1 {
				lose(taken[0].Node)
				w.Pool.Limbo[k] = taken[1:]
			}
		}
		slices.Sort(want)
		wantWorldOk(t, w, true, "run", n)
		wantAudit(t, w, want, false, "run", n)
	})
}
