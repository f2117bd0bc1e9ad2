package tests

import (
	"testing"

	"loop.example/tuggers/impl"
)

var junkNode, otherNode = impl.ArnNode{Key: 77, Used: true, Gen: 7}, impl.ArnNode{Key: 66, Used: true, Gen: 6}

// nodes turns what answers of places into what answers of their list.
func nodes[A any](a impl.ArnArena, call func(impl.ArnArena) []A) func([]impl.ArnNode) []A {
	return func(list []impl.ArnNode) []A {
		a.Nodes = list
		return call(a)
	}
}

func TestPlacesTurnedAreNewMemory(t *testing.T) {
	for _, a := range anyArenas() {
		check := func(call func(impl.ArnArena) impl.ArnArena) {
			t.Helper()
			checkMemory(t, a.Nodes, junkNode, otherNode, nodes(a, func(b impl.ArnArena) []impl.ArnNode { return call(b).Nodes }))
		}
		check(func(b impl.ArnArena) impl.ArnArena {
			got, _ := impl.ArnTake(b)
			return got
		})
		for at := -1; at <= impl.ArnSize+1; at++ {
			check(func(b impl.ArnArena) impl.ArnArena { return impl.ArnGive(b, at) })
			for _, old := range []int{-1, 0, 4, 8} {
				check(func(b impl.ArnArena) impl.ArnArena {
					got, _ := impl.ArnSwap(b, at, old, 6)
					return got
				})
			}
		}
	}
}

func TestListsOfPlacesAreNewMemory(t *testing.T) {
	for _, a := range anyArenas() {
		for _, call := range []func(impl.ArnArena) []int{impl.ArnChain, impl.ArnStacked, impl.ArnQueued, impl.ArnStack, impl.ArnQueue} {
			checkMemory(t, a.Nodes, junkNode, otherVal, nodes(a, call))
		}
		checkMemory(t, a.Nodes, junkNode, otherEntry, nodes(a, func(b impl.ArnArena) []impl.MapEntry { return impl.ArnMap(b).Entries }))
	}
}

func TestNewPlacesAreNewMemory(t *testing.T) {
	a := impl.ArnNew()
	overwrite(a.Nodes, otherNode)
	if !impl.ArnOk(impl.ArnNew()) {
		t.Errorf("a write into new places turned the next ones: %v", impl.ArnNew())
	}
}

func TestLookingAtPlacesWritesNothing(t *testing.T) {
	for _, a := range anyArenas() {
		checkMemory(t, a.Nodes, junkNode, otherVal, nodes(a, func(b impl.ArnArena) []int {
			impl.ArnOk(b)
			impl.ArnFree(b)
			return nil
		}))
	}
}
