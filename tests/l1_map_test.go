package tests

import (
	"math"
	"math/rand"
	"slices"
	"testing"

	"loop.example/tuggers/impl"
)

// askedKeys are all keys, some beyond both bounds, and the ends of numbers.
func askedKeys() []int {
	keys := []int{math.MinInt, math.MinInt + 1}
	for key := -3; key <= impl.KeyMax+3; key++ {
		keys = append(keys, key)
	}
	return append(keys, math.MaxInt-1, math.MaxInt)
}

// plainGet looks for the first entry of a key by going through all.
func plainGet(m impl.MapMap, key int) impl.ResRes {
	for _, e := range m.Entries {
		if e.Key == key {
			return yes(e.Val)
		}
	}
	return no
}

// wantOthersAsWere asks for all keys but one, ahead of a change and behind it.
func wantOthersAsWere(t *testing.T, was, is impl.MapMap, but int) {
	t.Helper()
	for _, key := range askedKeys() {
		if key != but {
			wantRes(t, impl.MapGet(is, key), impl.MapGet(was, key), is, key)
		}
	}
}

// P10

func TestPutIsThere(t *testing.T) {
	for _, m := range okMaps() {
		for key := 0; key <= impl.KeyMax; key++ {
			for _, val := range []int{0, 1, 500, impl.ValMax} {
				checkPut(t, m, key, val)
			}
		}
	}
}

func checkPut(t *testing.T, m impl.MapMap, key, val int) {
	t.Helper()
	got, res := impl.MapPut(m, key, val)
	if plainGet(m, key) != no {
		wantMap(t, got, res, m, no, key, val)
		return
	}
	if len(m.Entries) == impl.MapMax {
		wantMap(t, got, res, m, full, key, val)
		return
	}
	want := append(slices.Clone(m.Entries), impl.MapEntry{Key: key, Val: val})
	slices.SortFunc(want, func(a, b impl.MapEntry) int { return a.Key - b.Key })
	wantMap(t, got, res, impl.MapMap{Entries: want}, yes(0), m, key, val)
	wantRes(t, impl.MapGet(got, key), yes(val), got, key)
	wantOthersAsWere(t, m, got, key)
	if !impl.MapOk(got) {
		t.Errorf("put %d %d into %v: %v is not ok", key, val, m, got)
	}
}

func TestPutAtTheBounds(t *testing.T) {
	m, res := impl.MapPut(impl.MapMap{}, impl.KeyMax, impl.ValMax)
	wantMap(t, m, res, entries(99, 999), yes(0))
	m, res = impl.MapPut(m, 0, 0)
	wantMap(t, m, res, entries(0, 0, 99, 999), yes(0))
	m, res = impl.MapPut(m, 50, 0)
	wantMap(t, m, res, entries(0, 0, 50, 0, 99, 999), yes(0))
}

func TestPutWhereTheKeyIsThere(t *testing.T) {
	got, res := impl.MapPut(entries(3, 7), 3, 9)
	wantMap(t, got, res, entries(3, 7), no)
	got, res = impl.MapPut(entries(0, 0, 99, 999), 0, 1)
	wantMap(t, got, res, entries(0, 0, 99, 999), no)
	got, res = impl.MapPut(entries(0, 0, 99, 999), 99, 999)
	wantMap(t, got, res, entries(0, 0, 99, 999), no)
}

func TestPutWhereTheKeyIsThereAndAllIsFull(t *testing.T) {
	for _, e := range fullMap().Entries {
		got, res := impl.MapPut(fullMap(), e.Key, impl.ValMax)
		wantMap(t, got, res, fullMap(), no, e.Key)
	}
}

func TestPutHasNoRoomJustAtMapMax(t *testing.T) {
	m := impl.MapMap{}
	for key := impl.MapMax - 1; key >= 0; key-- {
		next, res := impl.MapPut(m, key, key)
		wantRes(t, res, yes(0), m, key)
		m = next
	}
	for _, key := range []int{impl.MapMax, 50, impl.KeyMax} {
		got, res := impl.MapPut(m, key, 1)
		wantMap(t, got, res, m, full, key)
	}
}

func TestPutBeyondIsNothing(t *testing.T) {
	for _, m := range okMaps() {
		for _, key := range []int{-1, impl.KeyMax + 1, math.MinInt, math.MaxInt} {
			got, res := impl.MapPut(m, key, 1)
			wantMap(t, got, res, impl.MapMap{}, nothing, m, key)
		}
		for _, val := range []int{-1, impl.ValMax + 1, math.MinInt, math.MaxInt} {
			for key := 0; key <= impl.KeyMax; key++ {
				got, res := impl.MapPut(m, key, val)
				wantMap(t, got, res, impl.MapMap{}, nothing, m, key, val)
			}
		}
	}
}

func TestPutIntoWhatIsNotOkIsNothing(t *testing.T) {
	for name, m := range wrongMaps() {
		t.Run(name, func(t *testing.T) {
			for _, key := range askedKeys() {
				got, res := impl.MapPut(m, key, 1)
				wantMap(t, got, res, impl.MapMap{}, nothing, m, key)
			}
		})
	}
}

// P11

func TestDeletedIsGone(t *testing.T) {
	for _, m := range okMaps() {
		for at, e := range m.Entries {
			got, res := impl.MapDel(m, e.Key)
			want := slices.Delete(slices.Clone(m.Entries), at, at+1)
			wantMap(t, got, res, impl.MapMap{Entries: want}, yes(e.Val), m, e.Key)
			wantRes(t, res, impl.MapGet(m, e.Key), m, e.Key)
			wantRes(t, impl.MapGet(got, e.Key), no, got, e.Key)
			wantOthersAsWere(t, m, got, e.Key)
		}
	}
}

func TestDeletedAndPutBackIsAsItWas(t *testing.T) {
	for _, m := range okMaps() {
		for _, e := range m.Entries {
			less, res := impl.MapDel(m, e.Key)
			back, resBack := impl.MapPut(less, e.Key, res.Val)
			wantMap(t, back, resBack, m, yes(0), less, e)
		}
	}
}

func TestDeleteWhatIsNotThere(t *testing.T) {
	for _, m := range okMaps() {
		for _, key := range askedKeys() {
			if plainGet(m, key) == no {
				got, res := impl.MapDel(m, key)
				wantMap(t, got, res, m, no, key)
			}
		}
	}
}

func TestDeleteFromWhatIsNotOkIsNothing(t *testing.T) {
	for name, m := range wrongMaps() {
		t.Run(name, func(t *testing.T) {
			for _, key := range askedKeys() {
				got, res := impl.MapDel(m, key)
				wantMap(t, got, res, impl.MapMap{}, nothing, m, key)
			}
		})
	}
}

// P10, P11, P12: many of them, one behind the other.
func TestPutDeleteAndGetAsAPlainMapDoes(t *testing.T) {
	source := rand.New(rand.NewSource(1))
	m, plain := impl.MapMap{}, map[int]int{}
	for i := range 5000 {
		key, val := source.Intn(14), source.Intn(impl.ValMax+1)
		was, there := plain[key]
		want := no
		var res impl.ResRes
		switch {
		case i%3 == 0:
			m, res = impl.MapDel(m, key)
			if there {
				want = yes(was)
				delete(plain, key)
			}
		default:
			m, res = impl.MapPut(m, key, val)
			if !there && len(plain) == impl.MapMax {
				want = full
			} else if !there {
				want = yes(0)
				plain[key] = val
			}
		}
		wantRes(t, res, want, "step", i, key, val)
		if len(m.Entries) != len(plain) || !impl.MapOk(m) {
			t.Fatalf("step %d: %v, want %v", i, m, plain)
		}
		for k, v := range plain {
			wantRes(t, impl.MapGet(m, k), yes(v), "step", i, m, k)
		}
	}
}

// P12

func TestGetOfAny(t *testing.T) {
	for _, m := range okMaps() {
		for _, key := range askedKeys() {
			wantRes(t, impl.MapGet(m, key), plainGet(m, key), m, key)
		}
	}
	for name, m := range wrongMaps() {
		t.Run(name, func(t *testing.T) {
			for _, key := range askedKeys() {
				wantRes(t, impl.MapGet(m, key), plainGet(m, key), m, key)
			}
		})
	}
}

func TestGetOfWhatIsNotOk(t *testing.T) {
	tests := []struct {
		m    impl.MapMap
		key  int
		want impl.ResRes
	}{
		{entries(5, 1, 5, 2), 5, yes(1)},
		{entries(1, 4, 5, 1, 5, 2, 5, 3), 5, yes(1)},
		{entries(5, 1, 9, 2, 5, 3), 5, yes(1)},
		{entries(9, 1, 5, 2), 9, yes(1)},
		{entries(9, 1, 5, 2), 5, yes(2)},
		{entries(9, 1, 5, 2), 7, no},
		{entries(-7, 1, 5, 2), -7, yes(1)},
		{entries(5, 1, 1000, 2), 1000, yes(2)},
		{entries(5, -4), 5, yes(-4)},
		{entries(5, 4000), 5, yes(4000)},
		{entries(1, 1, 2, 2, 3, 3, 4, 4, 5, 5, 6, 6, 7, 7, 8, 8, 9, 9), 9, yes(9)},
		{entries(1, 1, 2, 2, 3, 3, 4, 4, 5, 5, 6, 6, 7, 7, 8, 8, 9, 9), 10, no},
		{entries(math.MinInt, 1, math.MaxInt, 2), math.MaxInt, yes(2)},
		{entries(math.MinInt, 1, math.MaxInt, 2), math.MinInt, yes(1)},
	}
	for _, test := range tests {
		wantRes(t, impl.MapGet(test.m, test.key), test.want, test.m, test.key)
	}
}

// P47

func TestMapOkOfParts(t *testing.T) {
	for _, m := range okMaps() {
		for at := range len(m.Entries) + 1 {
			if part := m.Entries[:at]; !impl.MapOk(impl.MapMap{Entries: part}) {
				t.Errorf("the beginning %v is not ok", part)
			}
		}
		for at := range m.Entries {
			part := slices.Delete(slices.Clone(m.Entries), at, at+1)
			if !impl.MapOk(impl.MapMap{Entries: part}) {
				t.Errorf("%v, without one, is not ok", part)
			}
		}
	}
}

func TestMapOkOfWhatIsNotOk(t *testing.T) {
	for name, m := range wrongMaps() {
		if impl.MapOk(m) {
			t.Errorf("%s: %v is ok", name, m)
		}
	}
}

func TestMapOkAtItsBounds(t *testing.T) {
	for at := range impl.MapMax {
		keys := []struct {
			to   int
			want bool
		}{{at * 10, at == 0}, {at*10 + 1, true}, {at*10 + 19, true}, {at*10 + 20, at == impl.MapMax-1}}
		for _, key := range keys {
			m := fullMap()
			m.Entries[at].Key = key.to
			if impl.MapOk(m) != key.want {
				t.Errorf("entries %v: ok is not %v", m, key.want)
			}
		}
		for val, want := range map[int]bool{-1: false, 0: true, impl.ValMax: true, impl.ValMax + 1: false, math.MinInt: false, math.MaxInt: false} {
			m := fullMap()
			m.Entries[at].Val = val
			if impl.MapOk(m) != want {
				t.Errorf("entries %v: ok is not %v", m, want)
			}
		}
	}
}

func TestMapOkOfTheFirstAndTheLastKey(t *testing.T) {
	for key, want := range map[int]bool{-1: false, 0: true, impl.KeyMax: true, impl.KeyMax + 1: false, math.MinInt: false, math.MaxInt: false} {
		if impl.MapOk(entries(key, 1)) != want {
			t.Errorf("the key %d: ok is not %v", key, want)
		}
	}
	for size, want := range map[int]bool{0: true, impl.MapMax - 1: true, impl.MapMax: true, impl.MapMax + 1: false} {
		m := impl.MapMap{}
		for key := range size {
			m.Entries = append(m.Entries, impl.MapEntry{Key: key})
		}
		if impl.MapOk(m) != want {
			t.Errorf("%d entries: ok is not %v", size, want)
		}
	}
}

// P79

func TestNextIsTheLeastKeyFromThereOn(t *testing.T) {
	for _, m := range okMaps() {
		for _, key := range askedKeys() {
			want := no
			for _, e := range m.Entries {
				if e.Key >= key && (want == no || e.Key < want.Val) {
					want = yes(e.Key)
				}
			}
			wantRes(t, impl.MapNext(m, key), want, m, key)
		}
	}
}

func TestNextOfAny(t *testing.T) {
	tests := []struct {
		m    impl.MapMap
		key  int
		want impl.ResRes
	}{
		{impl.MapMap{}, 0, no},
		{impl.MapMap{}, math.MinInt, no},
		{entries(5, 1, 5, 2), 5, yes(5)},
		{entries(5, 1, 5, 2), 6, no},
		{entries(9, 1, 5, 2), 0, yes(9)},
		{entries(5, 1, 9, 2, 7, 3), 6, yes(9)},
		{entries(3, 1, 9, 2, 5, 3, 4, 4), 4, yes(9)},
		{entries(9, 1, 5, 2), 9, yes(9)},
		{entries(9, 1, 5, 2), 10, no},
		{entries(-7, 1, 5, 2), math.MinInt, yes(-7)},
		{entries(-7, 1, 5, 2), -7, yes(-7)},
		{entries(-7, 1, 5, 2), -6, yes(5)},
		{entries(5, 1, 1000, 2), 6, yes(1000)},
		{entries(5, 1, 1000, 2), 1001, no},
		{entries(math.MaxInt, 1), math.MaxInt, yes(math.MaxInt)},
		{entries(5, -1, 6, 4000), 6, yes(6)},
		{entries(1, 1, 2, 2, 3, 3, 4, 4, 5, 5, 6, 6, 7, 7, 8, 8, 9, 9), 9, yes(9)},
	}
	for _, test := range tests {
		wantRes(t, impl.MapNext(test.m, test.key), test.want, test.m, test.key)
	}
}

// P80

func TestCountGoesFromKeyToKey(t *testing.T) {
	for _, m := range okMaps() {
		for _, key := range askedKeys() {
			want := yes(0)
			if next := impl.MapNext(m, key); next.Code == impl.ResYes {
				want = yes(impl.MapCount(m, next.Val+1).Val + 1)
			}
			wantRes(t, impl.MapCount(m, key), want, m, key)
		}
		wantRes(t, impl.MapCount(m, 0), yes(len(m.Entries)), m)
		wantRes(t, impl.MapCount(m, math.MinInt), yes(len(m.Entries)), m)
		wantRes(t, impl.MapCount(m, impl.KeyMax+1), yes(0), m)
		wantRes(t, impl.MapCount(m, math.MaxInt), yes(0), m)
	}
}

func TestCountOfAny(t *testing.T) {
	tests := []struct {
		m    impl.MapMap
		key  int
		want int
	}{
		{entries(5, 1, 5, 2), 5, 2},
		{entries(5, 1, 5, 2), 6, 0},
		{entries(9, 1, 5, 2), 6, 1},
		{entries(9, 1, 5, 2), 5, 2},
		{entries(5, 1, 9, 2, 5, 3), 9, 1},
		{entries(-7, 1, 5, 2), -7, 2},
		{entries(-7, 1, 5, 2), -6, 1},
		{entries(-7, 1, 5, 2), math.MinInt, 2},
		{entries(5, 1, 1000, 2), 6, 1},
		{entries(5, 1, 1000, 2), 1001, 0},
		{entries(math.MaxInt, 1), math.MaxInt, 1},
		{entries(5, -1, 6, 4000), 5, 2},
		{impl.MapMap{Entries: make([]impl.MapEntry, 50)}, 0, 50},
		{impl.MapMap{Entries: make([]impl.MapEntry, 50)}, 1, 0},
	}
	for _, test := range tests {
		wantRes(t, impl.MapCount(test.m, test.key), yes(test.want), test.m, test.key)
	}
}
