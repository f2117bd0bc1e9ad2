package tests

import (
	"maps"
	"math"
	"slices"
	"testing"

	"loop.example/tuggers/impl"
)

// olds is what a hand took out, of places and epochs that stand in turn.
func olds(placesAndEpochs ...int) []impl.PolOld {
	var taken []impl.PolOld
	for i := 0; i < len(placesAndEpochs); i += 2 {
		taken = append(taken, impl.PolOld{Node: placesAndEpochs[i], Epoch: placesAndEpochs[i+1]})
	}
	return taken
}

// pool has no more hands than what they took out is named for.
func pool(epoch int, pins []int, taken ...[]impl.PolOld) impl.PolPool {
	return impl.PolPool{Epoch: epoch, Pins: pins, Limbo: taken}
}

// clonePool shares no memory with what it is of, and has no spare room.
func clonePool(p impl.PolPool) impl.PolPool {
	p.Pins = slices.Clone(p.Pins)
	p.Limbo = cloneTaken(p.Limbo)
	return p
}

func cloneTaken(limbo [][]impl.PolOld) [][]impl.PolOld {
	all := slices.Clone(limbo)
	for k, taken := range all {
		all[k] = slices.Clone(taken)
	}
	return all
}

// turnedPool is a pool with something done to a copy of it.
func turnedPool(p impl.PolPool, how func(*impl.PolPool)) impl.PolPool {
	p = clonePool(p)
	how(&p)
	return p
}

// busyPool is in epoch 5; hand 0 is pinned in it, hand 1 one epoch ahead of it, hand 2 in none.
// Epochs of what was taken out rise with hand 0, and do not with hand 2.
func busyPool() impl.PolPool {
	return pool(5, []int{6, 5, 0}, olds(4, 2, 9, 3, 1, 5), olds(7, 4), olds(2, 5, 6, 1, 3, 0))
}

// okPools are pools that are ok, the bounds of each part among them.
func okPools() map[string]impl.PolPool {
	return map[string]impl.PolPool{
		"new":                     impl.PolNew(),
		"busy":                    busyPool(),
		"empty lists":             pool(0, []int{0, 0, 0}, []impl.PolOld{}, nil, []impl.PolOld{}),
		"pinned in the first":     pool(0, []int{1, 1, 1}, nil, nil, nil),
		"pinned in the last":      pool(impl.PolMost, []int{impl.PolMost + 1, impl.PolMost, 0}, nil, nil, nil),
		"taken out in the first":  pool(0, []int{0, 0, 0}, olds(1, 0), olds(2, 0), olds(3, 0)),
		"taken out in the last":   pool(impl.PolMost, []int{0, 0, 0}, olds(1, impl.PolMost), nil, olds(impl.ArnSize, impl.PolMost)),
		"the first and last":      pool(9, []int{0, 0, 0}, nil, olds(1, 0, impl.ArnSize, 9), nil),
		"all with the first hand": pool(20, []int{0, 0, 0}, olds(9, 1, 8, 2, 7, 3, 6, 4, 5, 5, 4, 6, 3, 7, 2, 8, 1, 9), nil, nil),
		"all with the last hand":  pool(20, []int{0, 0, 0}, nil, nil, olds(1, 20, 2, 19, 3, 18, 4, 17, 5, 16, 6, 15, 7, 14, 8, 13, 9, 12)),
		"three with each":         pool(20, []int{21, 0, 20}, olds(1, 3, 4, 3, 7, 3), olds(2, 3, 5, 3, 8, 3), olds(3, 3, 6, 3, 9, 3)),
		"pinned long ago":         pool(50, []int{1, 2, 51}, olds(1, 50), nil, nil),
	}
}

// wrongPools have one part of a pool broken each.
func wrongPools() map[string]impl.PolPool {
	wrong := map[string]impl.PolPool{
		"nothing":               {},
		"no pins":               turnedPool(busyPool(), func(p *impl.PolPool) { p.Pins = nil }),
		"one pin too few":       turnedPool(busyPool(), func(p *impl.PolPool) { p.Pins = p.Pins[:impl.PolHands-1] }),
		"one pin too many":      turnedPool(busyPool(), func(p *impl.PolPool) { p.Pins = append(p.Pins, 0) }),
		"no lists":              turnedPool(busyPool(), func(p *impl.PolPool) { p.Limbo = nil }),
		"one list too few":      turnedPool(busyPool(), func(p *impl.PolPool) { p.Limbo = p.Limbo[:impl.PolHands-1] }),
		"one list too many":     turnedPool(busyPool(), func(p *impl.PolPool) { p.Limbo = append(p.Limbo, nil) }),
		"one list more, of one": turnedPool(busyPool(), func(p *impl.PolPool) { p.Limbo = append(p.Limbo, olds(8, 1)) }),
		"new, a pin too few":    turnedPool(impl.PolNew(), func(p *impl.PolPool) { p.Pins = p.Pins[1:] }),
		"new, a list too few":   turnedPool(impl.PolNew(), func(p *impl.PolPool) { p.Limbo = p.Limbo[1:] }),
		"the epoch below":       pool(-1, []int{0, 0, 0}, nil, nil, nil),
		"the epoch far below":   pool(math.MinInt, []int{0, 0, 0}, nil, nil, nil),
		"the epoch above":       pool(impl.PolMost+1, []int{0, 0, 0}, nil, nil, nil),
		"the epoch far above":   pool(math.MaxInt, []int{0, 0, 0}, nil, nil, nil),
		"ten of nine places":    pool(20, []int{0, 0, 0}, olds(1, 1, 2, 1, 3, 1, 4, 1), olds(5, 1, 6, 1, 7, 1), olds(8, 1, 9, 1, 1, 1)),
		"far too many places":   pool(20, []int{0, 0, 0}, nil, make([]impl.PolOld, 50), nil),
		"twice, side by side":   pool(5, []int{0, 0, 0}, nil, olds(4, 1, 4, 1), nil),
		"twice, apart":          pool(5, []int{0, 0, 0}, nil, nil, olds(4, 1, 5, 1, 6, 1, 4, 3)),
		"twice, with 0 and 1":   pool(5, []int{0, 0, 0}, olds(3, 1), olds(3, 1), nil),
		"twice, with 0 and 2":   pool(5, []int{0, 0, 0}, olds(1, 1, 9, 2), nil, olds(9, 1)),
		"twice, with 1 and 2":   pool(5, []int{0, 0, 0}, nil, olds(1, 5, 2, 5), olds(3, 5, 1, 5)),
	}
	for k := range impl.PolHands {
		for part, how := range wrongParts(k) {
			wrong[part+", hand "+string(rune('0'+k))] = turnedPool(busyPool(), how)
		}
	}
	return wrong
}

// wrongParts break one part of what a hand of busyPool has each.
func wrongParts(k int) map[string]func(*impl.PolPool) {
	last := func(p *impl.PolPool) *impl.PolOld { return &p.Limbo[k][len(p.Limbo[k])-1] }
	return map[string]func(*impl.PolPool){
		"pin below":         func(p *impl.PolPool) { p.Pins[k] = -1 },
		"pin above":         func(p *impl.PolPool) { p.Pins[k] = p.Epoch + 2 },
		"pin far above":     func(p *impl.PolPool) { p.Pins[k] = math.MaxInt },
		"the head":          func(p *impl.PolPool) { p.Limbo[k][0].Node = 0 },
		"place below":       func(p *impl.PolPool) { p.Limbo[k][0].Node = -1 },
		"place above":       func(p *impl.PolPool) { p.Limbo[k][0].Node = impl.ArnSize + 1 },
		"place far above":   func(p *impl.PolPool) { p.Limbo[k][0].Node = math.MaxInt },
		"place far below":   func(p *impl.PolPool) { p.Limbo[k][0].Node = math.MinInt },
		"last is the head":  func(p *impl.PolPool) { last(p).Node = 0 },
		"last place above":  func(p *impl.PolPool) { last(p).Node = impl.ArnSize + 1 },
		"epoch below":       func(p *impl.PolPool) { p.Limbo[k][0].Epoch = -1 },
		"epoch above":       func(p *impl.PolPool) { p.Limbo[k][0].Epoch = p.Epoch + 1 },
		"epoch far above":   func(p *impl.PolPool) { p.Limbo[k][0].Epoch = math.MaxInt },
		"last epoch below":  func(p *impl.PolPool) { last(p).Epoch = -1 },
		"last epoch above":  func(p *impl.PolPool) { last(p).Epoch = p.Epoch + 1 },
		"one more, a head":  func(p *impl.PolPool) { p.Limbo[k] = append(p.Limbo[k], impl.PolOld{}) },
		"one more, of next": func(p *impl.PolPool) { p.Limbo[k] = append(p.Limbo[k], p.Limbo[(k+1)%impl.PolHands][0]) },
		"one more, of own":  func(p *impl.PolPool) { p.Limbo[k] = append(p.Limbo[k], p.Limbo[k][0]) },
	}
}

func anyPools() map[string]impl.PolPool {
	all := okPools()
	maps.Copy(all, wrongPools())
	return all
}

// samePool takes an empty list and none as the same.
func samePool(a, b impl.PolPool) bool {
	return a.Epoch == b.Epoch && slices.Equal(a.Pins, b.Pins) && sameTaken(a.Limbo, b.Limbo)
}

func sameTaken(a, b [][]impl.PolOld) bool {
	return slices.EqualFunc(a, b, func(x, y []impl.PolOld) bool { return slices.Equal(x, y) })
}

func wantPoolOk(t *testing.T, p impl.PolPool, want bool, of ...any) {
	t.Helper()
	if got := impl.PolOk(p); got != want {
		t.Errorf("ok is %v, want %v, of %v %v", got, want, of, p)
	}
}

func wantFree(t *testing.T, p impl.PolPool, hand, epoch, want int) {
	t.Helper()
	if got := impl.PolFree(p, hand, epoch); got != want {
		t.Errorf("free for hand %d and epoch %d is %d, want %d, of %v", hand, epoch, got, want, p)
	}
}
