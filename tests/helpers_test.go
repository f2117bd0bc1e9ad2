package tests

import (
	"maps"
	"slices"
	"testing"

	"loop.example/tuggers/impl"
)

var (
	nothing = impl.ResRes{}
	no      = impl.ResRes{Code: impl.ResNo}
	full    = impl.ResRes{Code: impl.ResFull}
)

func yes(val int) impl.ResRes {
	return impl.ResRes{Code: impl.ResYes, Val: val}
}

// entries is a map of keys and values that stand in turn.
func entries(keysAndVals ...int) impl.MapMap {
	m := impl.MapMap{}
	for i := 0; i < len(keysAndVals); i += 2 {
		m.Entries = append(m.Entries, impl.MapEntry{Key: keysAndVals[i], Val: keysAndVals[i+1]})
	}
	return m
}

// fullMap has MapMax entries, of the keys 10, 20 and so on.
func fullMap() impl.MapMap {
	m := impl.MapMap{}
	for i := 1; i <= impl.MapMax; i++ {
		m.Entries = append(m.Entries, impl.MapEntry{Key: i * 10, Val: i})
	}
	return m
}

// okMaps are maps of every size that there may be, with the bounds of keys and values among them.
func okMaps() []impl.MapMap {
	all := []impl.MapMap{
		{},
		{Entries: []impl.MapEntry{}},
		entries(0, 0),
		entries(impl.KeyMax, impl.ValMax),
		entries(0, impl.ValMax, impl.KeyMax, 0),
		entries(0, 1, 1, 2, 2, 3, 3, 4, 4, 5, 5, 6, 6, 7, 7, 8),
		entries(92, 1, 93, 1, 94, 1, 95, 1, 96, 1, 97, 1, 98, 1, 99, 1),
		entries(0, 5, 14, 5, 28, 5, 42, 5, 56, 5, 70, 5, 84, 5, 99, 5),
	}
	for size := 1; size <= impl.MapMax; size++ {
		all = append(all, impl.MapMap{Entries: fullMap().Entries[:size:size]})
	}
	return all
}

// wrongMaps are entries that are not ok, by the name of what is wrong.
func wrongMaps() map[string]impl.MapMap {
	most := fullMap()
	return map[string]impl.MapMap{
		"one entry too many":       entries(1, 1, 2, 2, 3, 3, 4, 4, 5, 5, 6, 6, 7, 7, 8, 8, 9, 9),
		"far too many entries":     {Entries: make([]impl.MapEntry, 50)},
		"a key twice":              entries(5, 1, 5, 2),
		"a key twice, last":        entries(1, 1, 5, 1, 5, 2),
		"keys fall":                entries(9, 1, 5, 2),
		"keys fall in the middle":  entries(1, 1, 50, 2, 7, 3, 60, 4),
		"keys fall at the end":     {Entries: slices.Concat(most.Entries[:impl.MapMax-1], []impl.MapEntry{{Key: 0, Val: 0}})},
		"a key twice, apart":       entries(5, 1, 9, 2, 5, 3),
		"a key below":              entries(-1, 1, 5, 2),
		"a key above":              entries(5, 1, impl.KeyMax+1, 2),
		"a value below":            entries(1, -1, 5, 2),
		"a value above":            entries(1, 1, 5, impl.ValMax+1),
		"a value above, of a full": {Entries: slices.Concat(most.Entries[:impl.MapMax-1], []impl.MapEntry{{Key: 99, Val: 1000}})},
	}
}

// okLists are values of every size that there may be.
func okLists() [][]int {
	lists := [][]int{nil, {}, {0}, {impl.ValMax}, {impl.ValMax, 0, impl.ValMax, 0}, {7, 7, 7}}
	for size := 1; size <= impl.MapMax; size++ {
		var vals []int
		for i := range size {
			vals = append(vals, 100*size+i)
		}
		lists = append(lists, vals)
	}
	return lists
}

// wrongLists are values that are not ok, by the name of what is wrong.
func wrongLists() map[string][]int {
	return map[string][]int{
		"one value too many":          {1, 2, 3, 4, 5, 6, 7, 8, 9},
		"far too many values":         make([]int, 50),
		"a value below, first":        {-1, 5},
		"a value below, last":         {5, -1},
		"a value above, first":        {impl.ValMax + 1, 5},
		"a value above, last of full": {1, 2, 3, 4, 5, 6, 7, impl.ValMax + 1},
	}
}

func anyMaps() []impl.MapMap {
	return slices.AppendSeq(okMaps(), maps.Values(wrongMaps()))
}

func anyLists() [][]int {
	return slices.AppendSeq(okLists(), maps.Values(wrongLists()))
}

// sameMap takes an empty list and none as the same.
func sameMap(a, b impl.MapMap) bool {
	return slices.Equal(a.Entries, b.Entries)
}

// The three below tell, behind what they got, of what it was asked.

func wantMap(t *testing.T, got impl.MapMap, res impl.ResRes, want impl.MapMap, wantRes impl.ResRes, of ...any) {
	t.Helper()
	if !sameMap(got, want) || res != wantRes {
		t.Errorf("got %v %v, want %v %v, of %v", got, res, want, wantRes, of)
	}
}

func wantList(t *testing.T, got []int, res impl.ResRes, want []int, wantRes impl.ResRes, of ...any) {
	t.Helper()
	if !slices.Equal(got, want) || res != wantRes {
		t.Errorf("got %v %v, want %v %v, of %v", got, res, want, wantRes, of)
	}
}

func wantRes(t *testing.T, got, want impl.ResRes, of ...any) {
	t.Helper()
	if got != want {
		t.Errorf("got %v, want %v, of %v", got, want, of)
	}
}
