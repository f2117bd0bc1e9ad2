package tests

import (
	"slices"
	"testing"

	"loop.example/tuggers/impl"
)

// along is the places to which words lead, from a first one on; ArnSize at most.
func along(a impl.ArnArena, first int) []int {
	var places []int
	for at := first; at != 0 && len(places) < impl.ArnSize; at = a.Nodes[at].Word / 2 {
		places = append(places, at)
	}
	return places
}

// P19

func TestNewPlaces(t *testing.T) {
	a := impl.ArnNew()
	nodes := make([]impl.ArnNode, impl.ArnSize+1)
	nodes[0].Used = true
	nodes[1] = impl.ArnNode{Used: true, Gen: 1}
	wantArena(t, a, impl.ArnArena{Nodes: nodes, First: 1, Last: 1})
	if !impl.ArnOk(a) || impl.ArnFree(a) != impl.ArnSize-1 {
		t.Errorf("new places are ok: %v, with %d free", impl.ArnOk(a), impl.ArnFree(a))
	}
	wantInts(t, impl.ArnChain(a), nil, "the map's places")
	wantInts(t, impl.ArnStacked(a), nil, "the stack's places")
	wantInts(t, impl.ArnQueued(a), []int{1}, "the queue's places")
	if m := impl.ArnMap(a); len(m.Entries) != 0 {
		t.Errorf("new places have entries: %v", m)
	}
	wantInts(t, impl.ArnStack(a), nil, "the stack's values")
	wantInts(t, impl.ArnQueue(a), nil, "the queue's values")
}

func TestFreePlacesOfAny(t *testing.T) {
	for name, a := range anyArenas() {
		want := 0
		for _, n := range a.Nodes {
			if !n.Used {
				want++
			}
		}
		if got := impl.ArnFree(a); got != want {
			t.Errorf("%s: %d are free, want %d", name, got, want)
		}
	}
	for name, want := range map[string]int{"nothing": 0, "one place too many": 3, "one place too few": 1, "the head unused": 3, "Ver below 3": 2} {
		if got := impl.ArnFree(wrongShapes()[name]); got != want {
			t.Errorf("%s: %d are free, want %d", name, got, want)
		}
	}
}

// P17, P48, P49

func TestPlacesOfLaid(t *testing.T) {
	a := mixed()
	wantInts(t, impl.ArnChain(a), []int{4, 2, 7})
	wantInts(t, impl.ArnStacked(a), []int{8, 1})
	wantInts(t, impl.ArnQueued(a), []int{6, 5})
	full := laid(nil, nil, []int{9, 1, 8, 2, 7, 3, 6, 4, 5})
	wantInts(t, impl.ArnQueued(full), []int{9, 1, 8, 2, 7, 3, 6, 4, 5})
	full = laid([]int{9, 8, 7, 6, 5, 4, 3, 2}, nil, []int{1})
	wantInts(t, impl.ArnChain(full), []int{9, 8, 7, 6, 5, 4, 3, 2})
	full = laid(nil, []int{1, 9, 2, 8, 3, 7, 4, 6}, []int{5})
	wantInts(t, impl.ArnStacked(full), []int{1, 9, 2, 8, 3, 7, 4, 6})
}

func TestPlacesLeadToEachOther(t *testing.T) {
	for name, a := range rightShapes() {
		wantInts(t, impl.ArnChain(a), along(a, a.Nodes[0].Word/2), name, "map")
		wantInts(t, impl.ArnStacked(a), along(a, a.Top), name, "stack")
		wantInts(t, impl.ArnQueued(a), along(a, a.First), name, "queue")
	}
}

func TestPlacesInRingAreCut(t *testing.T) {
	rings := faultyArenas()
	wantInts(t, impl.ArnChain(rings["the map in a ring"]), []int{4, 2, 7, 4, 2, 7, 4, 2, 7})
	wantInts(t, impl.ArnChain(rings["the map's last leads to itself"]), []int{4, 2, 7, 7, 7, 7, 7, 7, 7})
	wantInts(t, impl.ArnChain(rings["all of the map in a ring"]), []int{9, 8, 7, 6, 5, 4, 3, 2, 9})
	wantInts(t, impl.ArnChain(rings["the map in a ring, marked"]), []int{4, 2, 7, 2, 7, 2, 7, 2, 7})
	wantInts(t, impl.ArnStacked(rings["the stack in a ring"]), []int{3, 1, 5, 3, 1, 5, 3, 1, 5})
	wantInts(t, impl.ArnStacked(rings["the stack's last leads to itself"]), []int{3, 1, 5, 5, 5, 5, 5, 5, 5})
	wantInts(t, impl.ArnQueued(rings["the queue in a ring"]), []int{2, 8, 4, 6, 2, 8, 4, 6, 2})
	wantInts(t, impl.ArnQueued(rings["all of the queue in a ring"]), []int{9, 1, 8, 2, 7, 3, 6, 4, 5})
}

func TestNoPlacesOfWrongShape(t *testing.T) {
	for name, a := range wrongShapes() {
		wantInts(t, impl.ArnChain(a), nil, name, "map")
		wantInts(t, impl.ArnStacked(a), nil, name, "stack")
		wantInts(t, impl.ArnQueued(a), nil, name, "queue")
	}
}

func TestPlacesThatAreOk(t *testing.T) {
	for name, a := range okArenas() {
		if !impl.ArnOk(a) {
			t.Fatalf("%s: not ok: %v", name, a)
		}
		chain, stacked, queued := impl.ArnChain(a), impl.ArnStacked(a), impl.ArnQueued(a)
		all := slices.Sorted(slices.Values(slices.Concat(chain, stacked, queued)))
		if len(slices.Compact(slices.Clone(all))) != len(all) {
			t.Errorf("%s: a place comes twice: %v %v %v", name, chain, stacked, queued)
		}
		for _, at := range all {
			if !a.Nodes[at].Used {
				t.Errorf("%s: place %d is not in use", name, at)
			}
		}
		for i := 1; i < len(chain); i++ {
			if a.Nodes[chain[i]].Key <= a.Nodes[chain[i-1]].Key {
				t.Errorf("%s: keys do not rise along %v", name, chain)
			}
		}
		for _, places := range [][]int{chain, stacked, queued} {
			if len(places) > 0 && impl.WrdTo(a.Nodes[places[len(places)-1]].Word) != 0 {
				t.Errorf("%s: %v does not end", name, places)
			}
		}
		for _, at := range slices.Concat(stacked, queued) {
			if impl.WrdMark(a.Nodes[at].Word) {
				t.Errorf("%s: place %d is marked", name, at)
			}
		}
		if !slices.Contains(queued[max(0, len(queued)-2):], a.Last) {
			t.Errorf("%s: Last is %d, of %v", name, a.Last, queued)
		}
	}
}

func TestPlacesThatAreNotOk(t *testing.T) {
	for name, a := range faultyArenas() {
		if impl.ArnOk(a) {
			t.Errorf("%s: ok: %v", name, a)
		}
	}
	for name, a := range wrongShapes() {
		if impl.ArnOk(a) {
			t.Errorf("%s: ok: %v", name, a)
		}
	}
}

// ArnGive of no place tells a right shape, whether it is ok or not: it stays.
func TestBoundsOfTheShapeAreRight(t *testing.T) {
	for _, at := range []int{1, 3, 5, 7, 9} {
		for _, n := range []impl.ArnNode{
			{},
			{Key: impl.KeyMax, Val: impl.ValMax, Word: 2*impl.ArnSize + 1, Ver: 1 << 40, Used: true, Gen: 1 << 40},
		} {
			a := turned(mixed(), func(a *impl.ArnArena) { a.Nodes[at] = n })
			if got := impl.ArnGive(a, -1); !sameArena(got, a) {
				t.Errorf("place %d is %v: not of the right shape", at, n)
			}
		}
	}
	for _, ends := range [][3]int{{0, 1, 1}, {impl.ArnSize, impl.ArnSize, impl.ArnSize}, {1, impl.ArnSize, 1}} {
		a := turned(mixed(), func(a *impl.ArnArena) { a.Top, a.First, a.Last = ends[0], ends[1], ends[2] })
		if got := impl.ArnGive(a, -1); !sameArena(got, a) {
			t.Errorf("Top, First and Last are %v: not of the right shape", ends)
		}
	}
}

// P18

func TestMapOfPlaces(t *testing.T) {
	of := func(name string) impl.MapMap { return impl.ArnMap(okArenas()[name]) }
	wantMap(t, of("new"), no, entries(), no)
	wantMap(t, of("mixed"), no, entries(10, 400, 20, 200, 30, 700), no)
	wantMap(t, of("all in the map"), no, entries(10, 900, 20, 800, 30, 700, 40, 600, 50, 500, 60, 400, 70, 300, 80, 200), no)
	wantMap(t, of("the first is marked"), no, entries(20, 200, 30, 700), no)
	wantMap(t, of("the middle is marked"), no, entries(10, 400, 30, 700), no)
	wantMap(t, of("the last is marked"), no, entries(10, 400, 20, 200), no)
	wantMap(t, of("all of the map is marked"), no, entries(), no)
	wantMap(t, of("a full map, marked"), no, entries(20, 800, 30, 700, 50, 500, 60, 400, 70, 300), no)
	wantMap(t, of("the bounds of keys and values"), no, entries(0, 999, 1, 0, 99, 700), no)
}

func TestMapHasAnEntryForEachThatIsNotMarked(t *testing.T) {
	for name, a := range okArenas() {
		var want impl.MapMap
		for _, at := range impl.ArnChain(a) {
			if n := a.Nodes[at]; n.Word%2 == 0 {
				want.Entries = append(want.Entries, impl.MapEntry{Key: n.Key, Val: n.Val})
			}
		}
		got := impl.ArnMap(a)
		wantMap(t, got, no, want, no, name)
		if !impl.MapOk(got) {
			t.Errorf("%s: the map is not ok: %v", name, got)
		}
	}
}

func TestToMarkTakesJustThatAway(t *testing.T) {
	for name, a := range okArenas() {
		was := impl.ArnMap(a)
		for _, at := range impl.ArnChain(a) {
			n := a.Nodes[at]
			if impl.WrdMark(n.Word) {
				continue
			}
			b, ok := impl.ArnSwap(a, at, n.Word, impl.WrdMake(impl.WrdTo(n.Word), true))
			if !ok || !impl.ArnOk(b) {
				t.Errorf("%s: place %d marked: %v %v", name, at, b, ok)
			}
			want, res := impl.MapDel(was, n.Key)
			wantMap(t, impl.ArnMap(b), res, want, yes(n.Val), name, at)
			wantInts(t, impl.ArnChain(b), impl.ArnChain(a), name, at)
			wantInts(t, impl.ArnStack(b), impl.ArnStack(a), name, at)
			wantInts(t, impl.ArnQueue(b), impl.ArnQueue(a), name, at)
		}
	}
}

// P48, P49

func TestStackAndQueueOfPlaces(t *testing.T) {
	stack := func(name string) []int { return impl.ArnStack(okArenas()[name]) }
	queue := func(name string) []int { return impl.ArnQueue(okArenas()[name]) }
	wantInts(t, stack("new"), nil)
	wantInts(t, queue("new"), nil)
	wantInts(t, stack("mixed"), []int{800, 100})
	wantInts(t, queue("mixed"), []int{500})
	wantInts(t, queue("Last is late"), []int{500})
	wantInts(t, stack("tall"), []int{300, 100, 500})
	wantInts(t, queue("tall"), []int{800, 400, 600})
	wantInts(t, queue("Last is late, of four"), []int{800, 400, 600})
	wantInts(t, stack("all on the stack"), []int{100, 900, 200, 800, 300, 700, 400, 600})
	wantInts(t, queue("all on the stack"), nil)
	wantInts(t, stack("all in the queue"), nil)
	wantInts(t, queue("all in the queue"), []int{100, 800, 200, 700, 300, 600, 400, 500})
}

func TestStackAndQueueAreValuesOfTheirPlaces(t *testing.T) {
	for name, a := range okArenas() {
		var stack, queue []int
		for _, at := range impl.ArnStacked(a) {
			stack = append(stack, a.Nodes[at].Val)
		}
		for _, at := range impl.ArnQueued(a)[1:] {
			queue = append(queue, a.Nodes[at].Val)
		}
		wantInts(t, impl.ArnStack(a), stack, name, "stack")
		wantInts(t, impl.ArnQueue(a), queue, name, "queue")
		if !impl.ListOk(impl.ArnStack(a)) || !impl.ListOk(impl.ArnQueue(a)) {
			t.Errorf("%s: values are not ok: %v %v", name, stack, queue)
		}
	}
}

func TestNothingIsThereOfWhatIsNotOk(t *testing.T) {
	for name, a := range anyArenas() {
		if impl.ArnOk(a) {
			continue
		}
		wantMap(t, impl.ArnMap(a), no, impl.MapMap{}, no, name)
		wantInts(t, impl.ArnStack(a), nil, name, "stack")
		wantInts(t, impl.ArnQueue(a), nil, name, "queue")
	}
}
