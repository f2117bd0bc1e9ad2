package tests

import (
	"math"
	"slices"
	"testing"

	"loop.example/tuggers/impl"
)

// listPuts are the two that put a value in, and where it is to stand.
var listPuts = map[string]struct {
	put  func([]int, int) ([]int, impl.ResRes)
	want func([]int, int) []int
}{
	"push": {impl.StkPush, func(vals []int, v int) []int { return slices.Concat([]int{v}, vals) }},
	"put":  {impl.QuePut, func(vals []int, v int) []int { return slices.Concat(vals, []int{v}) }},
}

// P43, P44

func TestPushAndPutStandWhereTheyAreTo(t *testing.T) {
	for name, test := range listPuts {
		t.Run(name, func(t *testing.T) {
			for _, vals := range okLists() {
				for _, v := range []int{0, 1, 500, impl.ValMax} {
					got, res := test.put(vals, v)
					if len(vals) == impl.MapMax {
						wantList(t, got, res, vals, full, v)
					} else {
						wantList(t, got, res, test.want(vals, v), yes(0), vals, v)
					}
				}
			}
		})
	}
}

func TestPushAndPutBeyondAreNothing(t *testing.T) {
	for name, test := range listPuts {
		t.Run(name, func(t *testing.T) {
			for _, vals := range okLists() {
				for _, v := range []int{-1, impl.ValMax + 1, math.MinInt, math.MaxInt} {
					got, res := test.put(vals, v)
					wantList(t, got, res, nil, nothing, vals, v)
				}
			}
			for _, vals := range wrongLists() {
				got, res := test.put(vals, 1)
				wantList(t, got, res, nil, nothing, vals)
			}
		})
	}
}

// P43

func TestPushedIsTakenFirst(t *testing.T) {
	for _, vals := range okLists() {
		if len(vals) == impl.MapMax {
			continue
		}
		for _, v := range []int{0, 42, impl.ValMax} {
			more, _ := impl.StkPush(vals, v)
			got, res := impl.ListTake(more)
			wantList(t, got, res, vals, yes(v), more)
		}
	}
}

func TestPushHasNoRoomJustAtMapMax(t *testing.T) {
	var vals []int
	for v := range impl.MapMax {
		next, res := impl.StkPush(vals, v)
		wantRes(t, res, yes(0))
		vals = next
	}
	wantList(t, vals, nothing, []int{7, 6, 5, 4, 3, 2, 1, 0}, nothing)
	got, res := impl.StkPush(vals, 9)
	wantList(t, got, res, vals, full)
}

// P44

func TestPutInLastComesLast(t *testing.T) {
	var vals []int
	for v := range impl.MapMax {
		next, res := impl.QuePut(vals, v*100)
		wantRes(t, res, yes(0))
		vals = next
	}
	got, res := impl.QuePut(vals, 9)
	wantList(t, got, res, vals, full)
	for v := range impl.MapMax {
		next, res := impl.ListTake(vals)
		wantRes(t, res, yes(v*100))
		vals = next
	}
	got, res = impl.ListTake(vals)
	wantList(t, got, res, nil, no)
}

// P45

func TestTakenIsTheFirst(t *testing.T) {
	for _, vals := range okLists() {
		got, res := impl.ListTake(vals)
		if len(vals) == 0 {
			wantList(t, got, res, nil, no)
		} else {
			wantList(t, got, res, vals[1:], yes(vals[0]), vals)
		}
	}
}

func TestTakeOfWhatIsNotOkIsNothing(t *testing.T) {
	for name, vals := range wrongLists() {
		t.Run(name, func(t *testing.T) {
			got, res := impl.ListTake(vals)
			wantList(t, got, res, nil, nothing)
		})
	}
}

// P46

func TestListOkOfParts(t *testing.T) {
	for _, vals := range okLists() {
		for at := range len(vals) + 1 {
			if !impl.ListOk(vals[:at]) || !impl.ListOk(vals[at:]) {
				t.Errorf("%v, parted at %d, is not ok", vals, at)
			}
		}
	}
}

func TestListOkOfWhatIsNotOk(t *testing.T) {
	for name, vals := range wrongLists() {
		if impl.ListOk(vals) {
			t.Errorf("%s: %v is ok", name, vals)
		}
	}
}

func TestListOkAtItsBounds(t *testing.T) {
	for size, want := range map[int]bool{0: true, impl.MapMax - 1: true, impl.MapMax: true, impl.MapMax + 1: false} {
		if impl.ListOk(make([]int, size)) != want {
			t.Errorf("%d values: ok is not %v", size, want)
		}
	}
	for at := range impl.MapMax {
		for val, want := range map[int]bool{-1: false, 0: true, impl.ValMax: true, impl.ValMax + 1: false, math.MinInt: false, math.MaxInt: false} {
			vals := []int{8, 7, 6, 5, 4, 3, 2, 1}
			vals[at] = val
			if impl.ListOk(vals) != want {
				t.Errorf("values %v: ok is not %v", vals, want)
			}
		}
	}
}

// P81

func TestFirstIsWhatIsTaken(t *testing.T) {
	for _, vals := range okLists() {
		_, res := impl.ListTake(vals)
		wantRes(t, impl.ListFirst(vals), res, vals)
	}
}

func TestFirstOfAny(t *testing.T) {
	for name, vals := range wrongLists() {
		t.Run(name, func(t *testing.T) {
			wantRes(t, impl.ListFirst(vals), yes(vals[0]), vals)
		})
	}
	wantRes(t, impl.ListFirst([]int{math.MinInt, 1}), yes(math.MinInt))
	wantRes(t, impl.ListFirst([]int{3, -1}), yes(3))
	wantRes(t, impl.ListFirst(nil), no)
	wantRes(t, impl.ListFirst([]int{}), no)
}
