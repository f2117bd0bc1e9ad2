package tests

import (
	"fmt"
	"slices"
	"testing"

	"loop.example/tuggers/impl"
)

// P2

func TestNoHandTouchesWhatIsNoMore(t *testing.T) { watchRuns(t, alwaysBy(touchesWhatIsThere)) }

func TestNoHandTouchesWhatIsNoMoreByHand(t *testing.T) { watchRuns(t, alwaysBy(touchesByHand)) }

// P3

func TestNoPlaceIsLost(t *testing.T) { watchRuns(t, alwaysBy(noneIsLost)) }

func TestNoPlaceIsTwice(t *testing.T) { watchRuns(t, alwaysBy(noneIsTwice)) }

func TestEachPlaceIsFoundOnce(t *testing.T) { watchRuns(t, alwaysBy(onceByHand)) }

// P57

func TestWhatIsSeenIsThereOrWas(t *testing.T) { watchRuns(t, alwaysBy(seesWhatIsOrWas)) }

// audits are who looks at each thing that happens, by which promise.
func audits() map[string]watcher {
	return map[string]watcher{
		"P2": touchesWhatIsThere, "P2, by hand": touchesByHand,
		"P3, lost": noneIsLost, "P3, twice": noneIsTwice, "P3, by hand": onceByHand,
		"P57": seesWhatIsOrWas,
	}
}

// auditAll goes through all orders of steps of some hands, and looks at each step.
func auditAll(t *testing.T, from impl.WldWorld, scripts [impl.PolHands]script, of ...any) int {
	t.Helper()
	all := audits()
	o := &orders{t: t, from: from, scripts: scripts, end: func(impl.WldWorld, seenKeys) {}}
	o.watch = func(h happening) {
		for name, look := range all {
			if _, broken := look(h); broken != "" {
				t.Fatalf("%s, of %v: %s", name, of, broken)
			}
		}
	}
	return o.goThrough()
}

// P2, P3, P57: each kind beside each other one, by whatever turns.
func TestAuditsOfPairs(t *testing.T) {
	for name, w := range starts(t) {
		if !slices.Contains([]string{"nothing", "two of each", "used", "no room but one"}, name) {
			continue
		}
		t.Run(name, func(t *testing.T) {
			t.Parallel()
			for at, one := range oneOfEachKind() {
				for _, other := range oneOfEachKind()[at:] {
					auditAll(t, w, [impl.PolHands]script{asks(one), asks(other), nil}, one, other)
				}
			}
		})
	}
}

// P2: who stands still, wherever that is, finds all that it saw as it was, though others take it out, clear up as often as they will, and take places again.
func TestAuditsWhileOneStandsStill(t *testing.T) {
	t.Parallel()
	takers := []impl.OpOp{op(impl.OpDel, 20), op(impl.OpDel, 30), popOp, popOp, leaveOp, leaveOp}
	clears := []impl.OpOp{clearOp, clearOp, clearOp}
	users := []impl.OpOp{op(impl.OpPut, 25, 3), pushOp, enterOp, op(impl.OpPut, 20, 4), pushOp, enterOp}
	for name, w := range stills(t) {
		still := w.Hands[2]
		watched := 0
		for _, o := range slices.Concat(takers, clears, users, clears, takers, clears, users) {
			for w = ask(t, w, 0, o); w.Hands[0].Pc != impl.PcIdle; {
				h := happening{was: w, event: stepOf(0), is: impl.WldStep(w, 0)}
				for by, look := range audits() {
					if _, broken := look(h); broken != "" {
						t.Fatalf("%s, of %s: %s", by, name, broken)
					}
				}
				watched++
				w = h.is
			}
		}
		if w.Hands[2] != still || watched < 100 {
			t.Fatalf("%s: hand 2 does not stand still", name)
		}
		w, _ = impl.WldWork(w, 2, 500)
		if !allIdle(w) || len(impl.AudLost(w)) > 0 || impl.AudTwice(w) || !impl.LinOk(w) {
			t.Fatalf("%s: behind its end there is %+v", name, w)
		}
	}
}

// P2, P3, P57: two hands take out, clear up, and take again, while a third one stands still, by whatever turns of the two.
func TestAuditsOfWhoTakesAgain(t *testing.T) {
	for name, o := range map[string][2]impl.OpOp{
		"the map":   {op(impl.OpDel, 20), op(impl.OpPut, 20, 9)},
		"the stack": {popOp, pushOp},
		"the queue": {leaveOp, enterOp},
	} {
		t.Run(name, func(t *testing.T) {
			t.Parallel()
			from := alone(t, impl.WldNew(), 2, op(impl.OpPut, 20, 5), op(impl.OpPush, 0, 7), op(impl.OpEnter, 0, 9))
			for n, still := range []impl.OpOp{o[0], op(impl.OpGet, 20), topOp, frontOp} {
				w := ask(t, from, 2, still)
				for range 3 + 2*n%5 {
					w = impl.WldStep(w, 2)
				}
				size := auditAll(t, w, [impl.PolHands]script{asks(o[0], clearOp), asks(clearOp, o[1]), nil}, name, still)
				if size < 500 {
					t.Errorf("there are just %d worlds", size)
				}
			}
		})
	}
}

// P3: what is lost is lost for good: whoever clears up, it does not come back, and is told each time.
func TestLostStaysLost(t *testing.T) {
	for at := 4; at <= impl.ArnSize; at++ {
		w := alone(t, impl.WldNew(), 0, op(impl.OpPut, 3, 30), op(impl.OpPush, 0, 40))
		w.Arena.Nodes[at].Used = true
		for n := range 6 {
			wantAudit(t, w, []int{at}, false, fmt.Sprint("lost, and cleared up so often: ", n))
			w = impl.WldTidy(w, 1)
		}
	}
}
