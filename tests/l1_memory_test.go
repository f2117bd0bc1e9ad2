package tests

import (
	"slices"
	"testing"

	"loop.example/tuggers/impl"
)

// Junk lies behind the end of an argument, and is written into it at last; the others are written into an answer.
var (
	junkVal, otherVal     = 777, 666
	junkEntry, otherEntry = impl.MapEntry{Key: 77, Val: junkVal}, impl.MapEntry{Key: 66, Val: otherVal}
)

// roomy is the same things, with junk in spare room behind their end.
func roomy[T any](things []T, junk T) []T {
	all := slices.Clone(things)
	for range 4 {
		all = append(all, junk)
	}
	return all[:len(things)]
}

func overwrite[T any](things []T, junk T) {
	all := things[:cap(things)]
	for at := range all {
		all[at] = junk
	}
}

// checkMemory fails if a call writes into its argument, or into the room behind it, or answers memory that it shares with that, or with another answer.
func checkMemory[T, A comparable](t *testing.T, things []T, junk T, other A, call func([]T) []A) {
	t.Helper()
	argument := roomy(things, junk)
	room := argument[:cap(argument)]
	was := slices.Clone(room)
	answer := call(argument)
	second := call(argument)
	want := slices.Clone(answer)
	overwrite(answer, other)
	if !slices.Equal(room, was) {
		t.Errorf("of %v: a write into the answer, or the call, turned the argument, or what is behind it: %v", things, room)
	}
	if !slices.Equal(second, want) {
		t.Errorf("of %v: two answers share memory, or differ: %v, %v", things, second, want)
	}
	overwrite(argument, junk)
	if !slices.Equal(second, want) {
		t.Errorf("of %v: a write into the argument turned the answer: %v, want %v", things, second, want)
	}
}

func TestMapAnswersAreNewMemory(t *testing.T) {
	for _, m := range anyMaps() {
		for key := -1; key <= impl.KeyMax+1; key++ {
			checkMemory(t, m.Entries, junkEntry, otherEntry, func(list []impl.MapEntry) []impl.MapEntry {
				got, _ := impl.MapPut(impl.MapMap{Entries: list}, key, 5)
				return got.Entries
			})
			checkMemory(t, m.Entries, junkEntry, otherEntry, func(list []impl.MapEntry) []impl.MapEntry {
				got, _ := impl.MapDel(impl.MapMap{Entries: list}, key)
				return got.Entries
			})
		}
	}
}

func TestListAnswersAreNewMemory(t *testing.T) {
	for _, vals := range anyLists() {
		for _, v := range []int{-1, 5} {
			checkMemory(t, vals, junkVal, otherVal, func(list []int) []int {
				got, _ := impl.StkPush(list, v)
				return got
			})
			checkMemory(t, vals, junkVal, otherVal, func(list []int) []int {
				got, _ := impl.QuePut(list, v)
				return got
			})
		}
		checkMemory(t, vals, junkVal, otherVal, func(list []int) []int {
			got, _ := impl.ListTake(list)
			return got
		})
	}
}

// Who just looks answers no list, but may not write either.
func TestLookingWritesNothing(t *testing.T) {
	for _, m := range anyMaps() {
		checkMemory(t, m.Entries, junkEntry, otherEntry, func(list []impl.MapEntry) []impl.MapEntry {
			asked := impl.MapMap{Entries: list}
			impl.MapOk(asked)
			impl.MapGet(asked, 5)
			impl.MapNext(asked, 5)
			impl.MapCount(asked, 5)
			return nil
		})
	}
	for _, vals := range anyLists() {
		checkMemory(t, vals, junkVal, otherVal, func(list []int) []int {
			impl.ListOk(list)
			impl.ListFirst(list)
			return nil
		})
	}
}
