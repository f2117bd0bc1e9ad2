package tests

import (
	"maps"
	"math"
	"slices"
	"testing"

	"loop.example/tuggers/impl"
)

// beyond are numbers that are neither a place nor a word.
var beyond = []int{math.MinInt, -20, -2, -1, 2*impl.ArnSize + 2, 2*impl.ArnSize + 3, 1000, math.MaxInt}

// laid is places of which those of a map, a stack and a queue lead to each other; along the map keys are 10, 20 and so on, and values are 100 times the place.
// How often words were turned, and places taken, differs from place to place, so that it shows who mixes them up.
func laid(chain, stacked, queued []int) impl.ArnArena {
	a := impl.ArnArena{Nodes: make([]impl.ArnNode, impl.ArnSize+1), First: queued[0], Last: queued[len(queued)-1]}
	a.Nodes[0].Used = true
	for at := 1; at <= impl.ArnSize; at++ {
		a.Nodes[at] = impl.ArnNode{Ver: at % 3, Gen: at % 4}
	}
	for i, at := range chain {
		a.Nodes[at].Key = (i + 1) * 10
	}
	lead(a.Nodes, append([]int{0}, chain...))
	lead(a.Nodes, stacked)
	lead(a.Nodes, queued)
	if len(stacked) > 0 {
		a.Top = stacked[0]
	}
	return a
}

// lead lets each place lead to the one behind it, and the last one to none.
func lead(nodes []impl.ArnNode, places []int) {
	for i, at := range places {
		nodes[at].Used = true
		nodes[at].Val = at * 100
		nodes[at].Word = 0
		if i+1 < len(places) {
			nodes[at].Word = 2 * places[i+1]
		}
	}
}

// turned is places with something done to a copy of them.
func turned(a impl.ArnArena, how func(*impl.ArnArena)) impl.ArnArena {
	a.Nodes = slices.Clone(a.Nodes)
	how(&a)
	return a
}

// marked is places with the words of some of them marked.
func marked(a impl.ArnArena, places ...int) impl.ArnArena {
	return turned(a, func(b *impl.ArnArena) {
		for _, at := range places {
			b.Nodes[at].Word++
		}
	})
}

// mixed has three entries, two values on the stack, and two in the queue; places 3 and 9 are free.
func mixed() impl.ArnArena {
	return laid([]int{4, 2, 7}, []int{8, 1}, []int{6, 5})
}

// tall has an entry, three values on the stack, and three in the queue.
func tall() impl.ArnArena {
	return laid([]int{9}, []int{3, 1, 5}, []int{2, 8, 4, 6})
}

// okArenas are places that are ok.
func okArenas() map[string]impl.ArnArena {
	return map[string]impl.ArnArena{
		"new":                      impl.ArnNew(),
		"mixed":                    mixed(),
		"tall":                     tall(),
		"all in the map":           laid([]int{9, 8, 7, 6, 5, 4, 3, 2}, nil, []int{1}),
		"all on the stack":         laid(nil, []int{1, 9, 2, 8, 3, 7, 4, 6}, []int{5}),
		"all in the queue":         laid(nil, nil, []int{9, 1, 8, 2, 7, 3, 6, 4, 5}),
		"all in use":               laid([]int{1, 2, 3}, []int{4, 5, 6}, []int{7, 8, 9}),
		"the first is marked":      marked(mixed(), 4),
		"the middle is marked":     marked(mixed(), 2),
		"the last is marked":       marked(mixed(), 7),
		"all of the map is marked": marked(mixed(), 4, 2, 7),
		"a full map, marked":       marked(laid([]int{9, 8, 7, 6, 5, 4, 3, 2}, nil, []int{1}), 9, 6, 2),
		"Last is late":             turned(mixed(), func(a *impl.ArnArena) { a.Last = 6 }),
		"Last is late, of four":    turned(tall(), func(a *impl.ArnArena) { a.Last = 4 }),
		"the bounds of keys and values": turned(mixed(), func(a *impl.ArnArena) {
			a.Nodes[4].Key, a.Nodes[4].Val = 0, impl.ValMax
			a.Nodes[2].Key, a.Nodes[2].Val = 1, 0
			a.Nodes[7].Key = impl.KeyMax
		}),
		"the head was turned often":   turned(mixed(), func(a *impl.ArnArena) { a.Nodes[0].Ver = 1000000 }),
		"a place in use, and nowhere": turned(mixed(), func(a *impl.ArnArena) { a.Nodes[3].Used = true }),
		"all others in use, nowhere":  turned(impl.ArnNew(), func(a *impl.ArnArena) { fill(a.Nodes) }),
		"free places with things left": turned(mixed(), func(a *impl.ArnArena) {
			a.Nodes[3] = impl.ArnNode{Key: 5, Val: 6, Word: 9, Ver: 7, Gen: 8}
			a.Nodes[9] = impl.ArnNode{Key: impl.KeyMax, Val: impl.ValMax, Word: 2*impl.ArnSize + 1, Ver: 1, Gen: 0}
		}),
		"keys do not rise off the map": turned(mixed(), func(a *impl.ArnArena) {
			a.Nodes[8].Key, a.Nodes[1].Key = 90, 10
			a.Nodes[6].Key, a.Nodes[5].Key = 50, 50
		}),
		"marks off map, stack and queue": turned(mixed(), func(a *impl.ArnArena) {
			a.Nodes[3] = impl.ArnNode{Word: 7, Used: true, Gen: 1}
			a.Nodes[9] = impl.ArnNode{Word: 1}
		}),
	}
}

func fill(nodes []impl.ArnNode) {
	for at := range nodes {
		nodes[at].Used = true
	}
}

// faultyArenas have the right shape, but are not ok.
func faultyArenas() map[string]impl.ArnArena {
	word := func(a impl.ArnArena, at, to int) impl.ArnArena {
		return turned(a, func(b *impl.ArnArena) { b.Nodes[at].Word = 2 * to })
	}
	unused := func(at int) impl.ArnArena {
		return turned(tall(), func(a *impl.ArnArena) { a.Nodes[at].Used = false })
	}
	return map[string]impl.ArnArena{
		"the map in a ring":                   word(mixed(), 7, 4),
		"the map's last leads to itself":      word(mixed(), 7, 7),
		"all of the map in a ring":            word(laid([]int{9, 8, 7, 6, 5, 4, 3, 2}, nil, []int{1}), 2, 9),
		"the map in a ring, marked":           marked(word(mixed(), 7, 2), 7),
		"the stack in a ring":                 word(tall(), 5, 3),
		"the stack's last leads to itself":    word(tall(), 5, 5),
		"the queue in a ring":                 word(tall(), 6, 2),
		"the queue's last leads to itself":    word(tall(), 6, 6),
		"all of the queue in a ring":          word(laid(nil, nil, []int{9, 1, 8, 2, 7, 3, 6, 4, 5}), 5, 9),
		"the map's place is not in use":       unused(9),
		"the stack's top is not in use":       unused(3),
		"the stack's last is not in use":      unused(5),
		"the queue's first is not in use":     unused(2),
		"the queue's last is not in use":      unused(6),
		"the map leads into the stack":        turned(word(mixed(), 7, 1), func(a *impl.ArnArena) { a.Nodes[1].Key = 99 }),
		"the map leads into the queue":        turned(word(mixed(), 7, 5), func(a *impl.ArnArena) { a.Nodes[5].Key = 99 }),
		"the stack leads into the map":        word(mixed(), 1, 7),
		"the stack leads into the queue":      word(mixed(), 1, 6),
		"the queue leads into the map":        turned(word(mixed(), 5, 7), func(a *impl.ArnArena) { a.Last = 7 }),
		"the queue leads into the stack":      turned(word(mixed(), 5, 1), func(a *impl.ArnArena) { a.Last = 5 }),
		"Top is the map's":                    turned(mixed(), func(a *impl.ArnArena) { a.Top = 7 }),
		"Top is First":                        turned(mixed(), func(a *impl.ArnArena) { a.Top = 6 }),
		"First and Last are the map's":        turned(mixed(), func(a *impl.ArnArena) { a.First, a.Last = 7, 7 }),
		"First and Last are the stack's":      turned(mixed(), func(a *impl.ArnArena) { a.First, a.Last = 1, 1 }),
		"a key twice":                         turned(mixed(), func(a *impl.ArnArena) { a.Nodes[2].Key = 10 }),
		"a key twice, last":                   turned(mixed(), func(a *impl.ArnArena) { a.Nodes[7].Key = 20 }),
		"keys fall":                           turned(mixed(), func(a *impl.ArnArena) { a.Nodes[4].Key = 21 }),
		"keys fall at the end":                turned(mixed(), func(a *impl.ArnArena) { a.Nodes[7].Key = 0 }),
		"a key twice, of which one is marked": marked(turned(mixed(), func(a *impl.ArnArena) { a.Nodes[2].Key = 10 }), 4),
		"the top is marked":                   marked(tall(), 3),
		"the stack's middle is marked":        marked(tall(), 1),
		"the stack's last is marked":          marked(tall(), 5),
		"the queue's first is marked":         marked(tall(), 2),
		"the queue's middle is marked":        marked(tall(), 8),
		"the queue's last is marked":          marked(tall(), 6),
		"a queue of none is marked":           marked(impl.ArnNew(), 1),
		"Last is late by two":                 turned(tall(), func(a *impl.ArnArena) { a.Last = 8 }),
		"Last is late by three":               turned(tall(), func(a *impl.ArnArena) { a.Last = 2 }),
		"Last is the map's":                   turned(tall(), func(a *impl.ArnArena) { a.Last = 9 }),
		"Last is the stack's":                 turned(tall(), func(a *impl.ArnArena) { a.Last = 5 }),
		"Last is nowhere":                     turned(tall(), func(a *impl.ArnArena) { a.Last = 7 }),
		"Last is nowhere, and leads there":    turned(word(mixed(), 3, 5), func(a *impl.ArnArena) { a.Last, a.Nodes[3].Used = 3, true }),
		"Last is not that of a queue of none": turned(impl.ArnNew(), func(a *impl.ArnArena) {
			a.Last = 2
		}),
	}
}

// wrongShapes have one part of the right shape broken each.
func wrongShapes() map[string]impl.ArnArena {
	wrong := map[string]impl.ArnArena{
		"nothing":             {},
		"no places":           {Top: 0, First: 1, Last: 1},
		"one place too few":   turned(mixed(), func(a *impl.ArnArena) { a.Nodes = a.Nodes[:impl.ArnSize] }),
		"one place too many":  turned(mixed(), func(a *impl.ArnArena) { a.Nodes = append(a.Nodes, impl.ArnNode{}) }),
		"the head alone":      turned(impl.ArnNew(), func(a *impl.ArnArena) { a.Nodes = a.Nodes[:1] }),
		"all places twice":    turned(mixed(), func(a *impl.ArnArena) { a.Nodes = append(a.Nodes, a.Nodes...) }),
		"the head unused":     turned(mixed(), func(a *impl.ArnArena) { a.Nodes[0].Used = false }),
		"the head's key":      turned(mixed(), func(a *impl.ArnArena) { a.Nodes[0].Key = 1 }),
		"the head's value":    turned(mixed(), func(a *impl.ArnArena) { a.Nodes[0].Val = 1 }),
		"the head was taken":  turned(mixed(), func(a *impl.ArnArena) { a.Nodes[0].Gen = 1 }),
		"the head is marked":  marked(mixed(), 0),
		"a new one's head":    marked(impl.ArnNew(), 0),
		"Top below":           turned(mixed(), func(a *impl.ArnArena) { a.Top = -1 }),
		"Top above":           turned(mixed(), func(a *impl.ArnArena) { a.Top = impl.ArnSize + 1 }),
		"First is the head":   turned(mixed(), func(a *impl.ArnArena) { a.First = 0 }),
		"First below":         turned(mixed(), func(a *impl.ArnArena) { a.First = -1 }),
		"First above":         turned(mixed(), func(a *impl.ArnArena) { a.First = impl.ArnSize + 1 }),
		"Last is the head":    turned(mixed(), func(a *impl.ArnArena) { a.Last = 0 }),
		"Last below":          turned(mixed(), func(a *impl.ArnArena) { a.Last = -1 }),
		"Last above":          turned(mixed(), func(a *impl.ArnArena) { a.Last = impl.ArnSize + 1 }),
		"the head's word":     turned(mixed(), func(a *impl.ArnArena) { a.Nodes[0].Word = 2*impl.ArnSize + 2 }),
		"the head's word, -2": turned(mixed(), func(a *impl.ArnArena) { a.Nodes[0].Word = -2 }),
		"the head's Ver":      turned(mixed(), func(a *impl.ArnArena) { a.Nodes[0].Ver = -1 }),
		"far off": turned(mixed(), func(a *impl.ArnArena) {
			a.Top, a.First, a.Last, a.Nodes[4].Word = math.MaxInt, math.MaxInt, math.MinInt, math.MaxInt
		}),
	}
	// Place 7 is in the map, 1 on the stack, 5 in the queue, 3 is free, and 9 is the last one.
	for _, at := range []int{1, 3, 5, 7, 9} {
		for part, how := range wrongNodes(at) {
			wrong[part+" "+string(rune('0'+at))] = turned(mixed(), how)
		}
	}
	return wrong
}

// wrongNodes break one part of a place each.
func wrongNodes(at int) map[string]func(*impl.ArnArena) {
	return map[string]func(*impl.ArnArena){
		"key below":   func(a *impl.ArnArena) { a.Nodes[at].Key = -1 },
		"key above":   func(a *impl.ArnArena) { a.Nodes[at].Key = impl.KeyMax + 1 },
		"value below": func(a *impl.ArnArena) { a.Nodes[at].Val = -1 },
		"value above": func(a *impl.ArnArena) { a.Nodes[at].Val = impl.ValMax + 1 },
		"word below":  func(a *impl.ArnArena) { a.Nodes[at].Word = -1 },
		"word above":  func(a *impl.ArnArena) { a.Nodes[at].Word = 2*impl.ArnSize + 2 },
		"Ver below":   func(a *impl.ArnArena) { a.Nodes[at].Ver = -1 },
		"Gen below":   func(a *impl.ArnArena) { a.Nodes[at].Gen = -1 },
	}
}

// rightShapes have the right shape, ok or not.
func rightShapes() map[string]impl.ArnArena {
	all := okArenas()
	maps.Copy(all, faultyArenas())
	return all
}

func anyArenas() map[string]impl.ArnArena {
	all := rightShapes()
	maps.Copy(all, wrongShapes())
	return all
}

// sameArena takes an empty list and none as the same.
func sameArena(a, b impl.ArnArena) bool {
	return slices.Equal(a.Nodes, b.Nodes) && a.Top == b.Top && a.First == b.First && a.Last == b.Last
}

// wantArena tells, behind what it got, of what it was asked.
func wantArena(t *testing.T, got, want impl.ArnArena, of ...any) {
	t.Helper()
	if !sameArena(got, want) {
		t.Errorf("got %v, want %v, of %v", got, want, of)
	}
}

func wantInts(t *testing.T, got, want []int, of ...any) {
	t.Helper()
	if !slices.Equal(got, want) {
		t.Errorf("got %v, want %v, of %v", got, want, of)
	}
}
