package tests

import (
	"math"
	"testing"

	"loop.example/tuggers/impl"
)

func TestNumbersOfWhatMayBeAsked(t *testing.T) {
	got := []int{impl.OpGet, impl.OpPut, impl.OpDel, impl.OpClear, impl.OpPush, impl.OpPop, impl.OpEnter, impl.OpLeave, impl.OpNext, impl.OpCount, impl.OpTop, impl.OpFront}
	for at, has := range kinds() {
		if got[at] != has.kind {
			t.Errorf("%s is %d, want %d", has.name, got[at], has.kind)
		}
	}
}

// P92

func TestWhatMayBeAsked(t *testing.T) {
	for _, o := range ops() {
		wantOpOk(t, o, true)
	}
}

func TestWhatMayNotBeAsked(t *testing.T) {
	for _, o := range wrongOps() {
		wantOpOk(t, o, false)
	}
}

func TestKeysThatMayBeAsked(t *testing.T) {
	for _, has := range kinds() {
		for key := -2; key <= impl.KeyMax+2; key++ {
			wantOpOk(t, op(has.kind, key), key == 0 || has.key && key > 0 && key <= 99, has.name)
		}
	}
}

func TestValuesThatMayBeAsked(t *testing.T) {
	for _, has := range kinds() {
		for val := -2; val <= impl.ValMax+2; val++ {
			wantOpOk(t, op(has.kind, 0, val), val == 0 || has.val && val > 0 && val <= 999, has.name)
		}
	}
}

// A key in its bounds does not make up for a value beyond, nor the other way round.
func TestKeysAndValuesTogether(t *testing.T) {
	keys := []int{math.MinInt, -1, 0, 1, 98, 99, 100, 999, math.MaxInt}
	vals := []int{math.MinInt, -1, 0, 1, 99, 100, 998, 999, 1000, math.MaxInt}
	for _, has := range kinds() {
		for _, key := range keys {
			for _, val := range vals {
				keyOk := key == 0 || has.key && key > 0 && key <= 99
				valOk := val == 0 || has.val && val > 0 && val <= 999
				wantOpOk(t, op(has.kind, key, val), keyOk && valOk, has.name)
			}
		}
	}
}

func TestKindsThatAreNone(t *testing.T) {
	for _, kind := range noKinds() {
		for _, key := range []int{-1, 0, 1, impl.KeyMax} {
			for _, val := range []int{-1, 0, 1, impl.ValMax} {
				wantOpOk(t, op(kind, key, val), false)
			}
		}
	}
}
