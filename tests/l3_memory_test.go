package tests

import (
	"slices"
	"testing"

	"loop.example/tuggers/impl"
)

var junkOld, otherOld = impl.PolOld{Node: 77, Epoch: 7}, impl.PolOld{Node: 66, Epoch: 6}

// roomyPool has junk in spare room behind each of its lists.
func roomyPool(p impl.PolPool) impl.PolPool {
	p.Pins = roomy(p.Pins, junkVal)
	p.Limbo = roomy(p.Limbo, []impl.PolOld{junkOld})
	for k, taken := range p.Limbo {
		p.Limbo[k] = roomy(taken, junkOld)
	}
	return p
}

// wholePool is a copy of a pool, with the room behind the end of each list as if it were in it.
func wholePool(p impl.PolPool) impl.PolPool {
	p.Pins = slices.Clone(p.Pins[:cap(p.Pins)])
	p.Limbo = slices.Clone(p.Limbo[:cap(p.Limbo)])
	for k, taken := range p.Limbo {
		p.Limbo[k] = slices.Clone(taken[:cap(taken)])
	}
	return p
}

func overwritePool(p impl.PolPool, val int, old impl.PolOld) {
	overwrite(p.Pins, val)
	for _, taken := range p.Limbo[:cap(p.Limbo)] {
		overwrite(taken, old)
	}
	overwrite(p.Limbo, []impl.PolOld{old})
}

func TestOutIsNewMemory(t *testing.T) {
	for name, p := range anyPools() {
		argument := roomyPool(p)
		was := wholePool(argument)
		answer, second := impl.PolOut(argument), impl.PolOut(argument)
		want := slices.Clone(answer)
		overwrite(answer, otherVal)
		if !samePool(wholePool(argument), was) {
			t.Errorf("%s: a write into the answer, or the call, turned the argument, or what is behind it", name)
		}
		wantInts(t, second, want, name, "of two answers the second")
		overwritePool(argument, junkVal, junkOld)
		wantInts(t, second, want, name, "behind a write into the argument")
	}
}

func TestLookingAtPoolsWritesNothing(t *testing.T) {
	for name, p := range anyPools() {
		argument := roomyPool(p)
		was := wholePool(argument)
		if impl.PolOk(argument) != impl.PolOk(p) {
			t.Errorf("%s: ok hangs on spare room", name)
		}
		for k := -1; k <= impl.PolHands; k++ {
			if impl.PolFree(argument, k, 7) != impl.PolFree(p, k, 7) {
				t.Errorf("%s: what is free hangs on spare room", name)
			}
		}
		if !samePool(wholePool(argument), was) {
			t.Errorf("%s: a look turned the argument, or what is behind it", name)
		}
	}
}

func TestNewPoolsAreNewMemory(t *testing.T) {
	one, two := impl.PolNew(), impl.PolNew()
	want := clonePool(two)
	overwritePool(one, otherVal, otherOld)
	if !samePool(two, want) || !samePool(impl.PolNew(), want) {
		t.Errorf("a write into a new pool turned another one: %v, %v", two, impl.PolNew())
	}
}

// What is put behind the end of one list of a new pool is in no other.
func TestListsOfANewPoolShareNoMemory(t *testing.T) {
	for k := range impl.PolHands {
		p := impl.PolNew()
		for range 10 {
			p.Limbo[k] = append(p.Limbo[k], otherOld)
		}
		overwrite(p.Limbo[k], otherOld)
		for other, taken := range p.Limbo {
			if other != k && slices.Contains(taken[:cap(taken)], otherOld) {
				t.Errorf("lists %d and %d of a new pool share memory: %v", k, other, p.Limbo)
			}
		}
	}
}
