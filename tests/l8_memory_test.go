package tests

import (
	"slices"
	"testing"

	"loop.example/tuggers/impl"
)

// auditWorlds are worlds of which much is held, and lost, ok or not.
func auditWorlds() map[string]impl.WldWorld {
	all := memoryWorlds()
	for name, w := range wrongWorlds() {
		all[name] = w
	}
	all["lost"] = looseWorld()
	held := looseWorld()
	for k, at := range loose {
		isOwnOf(k)(&held, at)
		isOldOf(k)(&held, loose[(k+1)%3])
	}
	settle(&held)
	all["held"] = held
	all["held, and not ok"] = turnedWorld(held, func(w *impl.WldWorld) { w.Clock = -1 })
	some, _ := holdingWorld(63)
	all["all hands hold two"] = some
	return all
}

// checkAuditMemory fails if a call writes into its argument, or behind it, or answers memory that it shares with that, or with another answer.
func checkAuditMemory(t *testing.T, w impl.WldWorld, call func(impl.WldWorld) []int, of ...any) {
	t.Helper()
	argument := roomyWorld(cloneWorld(w))
	was := wholeWorld(argument)
	answer, second := call(argument), call(argument)
	want := slices.Clone(answer)
	wantWorld(t, wholeWorld(argument), was, of, "behind the call")
	overwrite(answer, otherVal)
	wantWorld(t, wholeWorld(argument), was, of, "behind a write into the answer")
	wantInts(t, second, want, of, "the second answer behind a write into the first")
	overwriteWorld(argument, junkNode, junkVal, junkOld, junkHand, junkRec)
	wantInts(t, second, want, of, "the answer behind a write into the argument")
}

func TestAuditsAreNewMemory(t *testing.T) {
	some := 0
	for name, w := range auditWorlds() {
		checkAuditMemory(t, w, impl.AudHeld, name, "held")
		checkAuditMemory(t, w, impl.AudLost, name, "lost")
		some += len(impl.AudHeld(w)) + len(impl.AudLost(w))
	}
	if some < 15 {
		t.Errorf("just %d are told", some)
	}
}

// Who just says whether something is so answers no list, but may not write either.
func TestAuditsWriteNothing(t *testing.T) {
	for name, w := range auditWorlds() {
		checkAuditMemory(t, w, func(w impl.WldWorld) []int {
			impl.AudTwice(w)
			for k := -1; k <= impl.PolHands; k++ {
				impl.AudTouch(w, k)
			}
			return nil
		}, name)
	}
}

// What was asked ahead is not kept: the same world tells the same, whatever was asked between.
func TestAuditsKeepNothing(t *testing.T) {
	all := auditWorlds()
	for name, w := range all {
		held, lost, twice := impl.AudHeld(w), impl.AudLost(w), impl.AudTwice(w)
		for _, other := range all {
			impl.AudLost(other)
			impl.AudTwice(other)
		}
		wantHeld(t, w, held, name)
		wantAudit(t, w, lost, twice, name)
	}
}
