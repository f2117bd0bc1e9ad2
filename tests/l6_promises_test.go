package tests

import (
	"testing"
)

// alwaysBy is one watcher for all runs: it keeps nothing from one thing that happens to the next.
func alwaysBy(w watcher) func() watcher {
	return func() watcher { return w }
}

// watchRuns holds a promise behind each thing that happens, in many runs, and in long ones; some of what happens must be of the kind that it tells of.
func watchRuns(t *testing.T, newWatcher func() watcher) {
	t.Helper()
	t.Parallel()
	met := 0
	watch := func(n, size int) {
		look := newWatcher()
		at := 0
		play(t, n, size, func(h happening) {
			at++
			is, broken := look(h)
			if broken != "" {
				t.Fatalf("run %d, thing %d, %v: %s", n, at, h.event, broken)
			}
			if is {
				met++
			}
		})
	}
	for n := range someRuns {
		watch(n, 300)
	}
	// The numbers are of a mix of all, of the map, the stack and the queue, each by another way to take turns.
	for _, n := range []int{96, 105, 115, 124} {
		watch(n, 4000)
	}
	if met < 20 {
		t.Errorf("runs came to it just %d times", met)
	}
}

// P6

func TestNoRoomIsToldJustIfThereWasNone(t *testing.T) { watchRuns(t, alwaysBy(toldNoRoom)) }

// P28

func TestWorldStaysAWorld(t *testing.T) { watchRuns(t, alwaysBy(staysOk)) }

// P29

func TestMarksStay(t *testing.T) { watchRuns(t, alwaysBy(marksStay)) }

// P30

func TestEpochWaits(t *testing.T) { watchRuns(t, alwaysBy(epochWaits)) }

// P31

func TestAnswersBecameSoInOrder(t *testing.T) { watchRuns(t, alwaysBy(pointsInOrder)) }

// P53

func TestWhatIsSoStaysSo(t *testing.T) { watchRuns(t, alwaysBy(doneStays)) }

// P54

func TestLogGrowsAtItsEnd(t *testing.T) { watchRuns(t, alwaysBy(logGrows)) }

// P55

func TestTakenOutComesBackTwoEpochsLater(t *testing.T) { watchRuns(t, alwaysBy(takenOutStays)) }

func TestTakenOutIsNotedInTheEpoch(t *testing.T) { watchRuns(t, alwaysBy(notedNow)) }

// P56

func TestLastIsLateByOneAtMost(t *testing.T) { watchRuns(t, alwaysBy(lastIsNear)) }

func TestWhoEnteredFindsTheLastOneAgain(t *testing.T) { watchRuns(t, alwaysBy(enteredBehind)) }

// P73

func TestIdleHandsAreNotPinned(t *testing.T) { watchRuns(t, alwaysBy(idleIsNotPinned)) }

// P74

func TestHowOftenPlacesWereTaken(t *testing.T) { watchRuns(t, alwaysBy(gensGrow)) }

// P75

func TestWhatAHandTookNobodyElseSees(t *testing.T) { watchRuns(t, alwaysBy(ownIsNobodyElses)) }

// P86

func TestEachTurnOfAWordIsCounted(t *testing.T) { watchRuns(t, alwaysBy(turnsAreCounted)) }

// P87

func TestWhoJustLooksTurnsNothing(t *testing.T) { watchRuns(t, alwaysBy(lookersTurnNothing)) }

// P89

func TestWhoCountsSeesAllTwice(t *testing.T) {
	watchRuns(t, func() watcher { return new(looks).seenTwice })
}

func TestWhoCountsLooksAtAllPlaces(t *testing.T) {
	watchRuns(t, func() watcher { return new(looks).wholeLook })
}
