package tests

import (
	"slices"
	"testing"

	"loop.example/tuggers/impl"
)

// P14

func TestTakeIsTheFirstThatIsNotInUse(t *testing.T) {
	for name, a := range rightShapes() {
		want, which := a, slices.IndexFunc(a.Nodes, func(n impl.ArnNode) bool { return !n.Used })
		if which < 0 {
			which = 0
		} else {
			want = turned(a, func(b *impl.ArnArena) {
				b.Nodes[which] = impl.ArnNode{Used: true, Gen: a.Nodes[which].Gen + 1}
			})
		}
		got, at := impl.ArnTake(a)
		wantArena(t, got, want, name)
		if at != which {
			t.Errorf("%s: took %d, want %d", name, at, which)
		}
	}
}

// P14, P19: of new places all can be taken but the head, and that ahead of the queue.
func TestTakeAllOneByOne(t *testing.T) {
	a := impl.ArnNew()
	for want := 2; want <= impl.ArnSize; want++ {
		b, at := impl.ArnTake(a)
		if at != want || impl.ArnFree(b) != impl.ArnFree(a)-1 {
			t.Fatalf("took %d, want %d; %d are free behind %d", at, want, impl.ArnFree(b), impl.ArnFree(a))
		}
		a = b
	}
	b, at := impl.ArnTake(a)
	wantArena(t, b, a)
	if at != 0 || impl.ArnFree(b) != 0 {
		t.Errorf("took %d where none was free", at)
	}
}

func TestTakeOfAPlaceThatWasInUse(t *testing.T) {
	a := mixed()
	a.Nodes[3] = impl.ArnNode{Key: 5, Val: 6, Word: 9, Ver: 7, Gen: 8}
	got, at := impl.ArnTake(a)
	if at != 3 || got.Nodes[3] != (impl.ArnNode{Used: true, Gen: 9}) {
		t.Errorf("took %d: %v", at, got.Nodes[3])
	}
	a = impl.ArnNew()
	for gen := 1; gen <= 20; gen++ {
		a, at = impl.ArnTake(a)
		if at != 2 || a.Nodes[2] != (impl.ArnNode{Used: true, Gen: gen}) {
			t.Fatalf("took %d the time %d: %v", at, gen, a.Nodes[2])
		}
		a.Nodes[2].Key, a.Nodes[2].Val, a.Nodes[2].Word, a.Nodes[2].Ver = gen, gen, 1, gen
		a = impl.ArnGive(a, 2)
		if a.Nodes[2] != (impl.ArnNode{Gen: gen}) {
			t.Fatalf("given back the time %d: %v", gen, a.Nodes[2])
		}
	}
}

func TestGiveBackWhatWasTaken(t *testing.T) {
	for name, a := range rightShapes() {
		taken, at := impl.ArnTake(a)
		if at == 0 {
			continue
		}
		// What lies about at a free place is gone once it was taken, so only its count is held against what it was.
		want := turned(a, func(b *impl.ArnArena) { b.Nodes[at] = impl.ArnNode{Gen: b.Nodes[at].Gen + 1} })
		wantArena(t, impl.ArnGive(taken, at), want, name, at)
	}
}

func TestTakeOfWrongShape(t *testing.T) {
	for name, a := range wrongShapes() {
		got, at := impl.ArnTake(a)
		wantArena(t, got, impl.ArnArena{}, name)
		if at != 0 {
			t.Errorf("%s: took %d", name, at)
		}
	}
}

// P15

func TestGiveIsInUseNoMore(t *testing.T) {
	for name, a := range rightShapes() {
		for at := 1; at <= impl.ArnSize; at++ {
			want := a
			if a.Nodes[at].Used {
				want = turned(a, func(b *impl.ArnArena) { b.Nodes[at] = impl.ArnNode{Gen: b.Nodes[at].Gen} })
			}
			got := impl.ArnGive(a, at)
			wantArena(t, got, want, name, at)
			if got.Nodes[at].Used {
				t.Errorf("%s: place %d is still in use", name, at)
			}
			if impl.ArnOk(a) && !inThree(a, at) && !impl.ArnOk(got) {
				t.Errorf("%s: not ok without %d", name, at)
			}
		}
	}
}

// inThree says whether a place is in map, stack or queue.
func inThree(a impl.ArnArena, at int) bool {
	return slices.Contains(slices.Concat(impl.ArnChain(a), impl.ArnStacked(a), impl.ArnQueued(a)), at)
}

func TestGiveTwiceIsAsOnce(t *testing.T) {
	for name, a := range anyArenas() {
		for at := -2; at <= impl.ArnSize+2; at++ {
			once := impl.ArnGive(a, at)
			wantArena(t, impl.ArnGive(once, at), once, name, at)
		}
	}
}

func TestGiveOfNoPlace(t *testing.T) {
	for name, a := range rightShapes() {
		for _, at := range append(beyond, 0, impl.ArnSize+1) {
			wantArena(t, impl.ArnGive(a, at), a, name, at)
		}
	}
}

func TestGiveOfWrongShape(t *testing.T) {
	for name, a := range wrongShapes() {
		for at := -1; at <= impl.ArnSize+1; at++ {
			wantArena(t, impl.ArnGive(a, at), impl.ArnArena{}, name, at)
		}
	}
}

// P16

// words are all words, and what is none.
func words() []int {
	all := slices.Clone(beyond)
	for w := range 2*impl.ArnSize + 2 {
		all = append(all, w)
	}
	return all
}

func isWord(w int) bool {
	return w >= 0 && w <= 2*impl.ArnSize+1
}

func wantSwap(t *testing.T, a impl.ArnArena, at, old, word int, want impl.ArnArena, wantOk bool, of ...any) {
	t.Helper()
	got, ok := impl.ArnSwap(a, at, old, word)
	if !sameArena(got, want) || ok != wantOk {
		t.Errorf("ArnSwap at %d from %d to %d: got %v %v, want %v %v, of %v", at, old, word, got, ok, want, wantOk, of)
	}
}

func TestSwapJustIfItIsAsItWasThoughtToBe(t *testing.T) {
	for name, a := range rightShapes() {
		for at := 0; at <= impl.ArnSize; at++ {
			for _, old := range words() {
				for _, word := range words() {
					if !isWord(word) || at == 0 && word%2 == 1 {
						wantSwap(t, a, at, old, word, impl.ArnArena{}, false, name)
						continue
					}
					if old != a.Nodes[at].Word {
						wantSwap(t, a, at, old, word, a, false, name)
						continue
					}
					want := turned(a, func(b *impl.ArnArena) {
						b.Nodes[at].Word = word
						b.Nodes[at].Ver++
					})
					wantSwap(t, a, at, old, word, want, true, name)
				}
			}
		}
	}
}

func TestSwapBack(t *testing.T) {
	for name, a := range rightShapes() {
		for at := 0; at <= impl.ArnSize; at++ {
			was := a.Nodes[at].Word
			for word := 0; word <= 2*impl.ArnSize+1; word++ {
				if at == 0 && word%2 == 1 {
					continue
				}
				there, ok := impl.ArnSwap(a, at, was, word)
				if !ok {
					t.Fatalf("%s: place %d from %d to %d is false", name, at, was, word)
				}
				want := turned(a, func(b *impl.ArnArena) { b.Nodes[at].Ver += 2 })
				wantSwap(t, there, at, word, was, want, true, name)
			}
		}
	}
}

func TestSwapToTheSameIsCounted(t *testing.T) {
	a := mixed()
	want := turned(a, func(b *impl.ArnArena) { b.Nodes[2].Ver++ })
	wantSwap(t, a, 2, 14, 14, want, true)
	want = turned(a, func(b *impl.ArnArena) { b.Nodes[0].Ver++ })
	wantSwap(t, a, 0, 8, 8, want, true)
}

func TestSwapOfNoPlace(t *testing.T) {
	for name, a := range rightShapes() {
		for _, at := range append(beyond, impl.ArnSize+1) {
			wantSwap(t, a, at, 0, 0, impl.ArnArena{}, false, name)
			wantSwap(t, a, at, 4, 4, impl.ArnArena{}, false, name)
		}
	}
}

func TestSwapOfWrongShape(t *testing.T) {
	for name, a := range wrongShapes() {
		for at := -1; at <= impl.ArnSize+1; at++ {
			wantSwap(t, a, at, 0, 2, impl.ArnArena{}, false, name)
			if at >= 0 && at < len(a.Nodes) {
				wantSwap(t, a, at, a.Nodes[at].Word, 2, impl.ArnArena{}, false, name)
			}
		}
	}
}

func TestSwapOfWhatIsNotInUse(t *testing.T) {
	a := mixed()
	want := turned(a, func(b *impl.ArnArena) {
		b.Nodes[9].Word = 5
		b.Nodes[9].Ver++
	})
	wantSwap(t, a, 9, 0, 5, want, true)
}
