package impl

// KeyMax is the greatest key, ValMax the greatest value, MapMax how many entries, or values, there are at most.
const (
	KeyMax = 99
	ValMax = 999
	MapMax = 8
)

// What is answered: no, yes, or that there is no room.
const (
	ResNo   = 1
	ResYes  = 2
	ResFull = 3
)

// MapEntry is a key and its value.
type MapEntry struct {
	Key int
	Val int
}

// MapMap is entries, by their keys.
type MapMap struct {
	Entries []MapEntry
}

// ResRes is an answer, and a value, if there is one.
type ResRes struct {
	Code int
	Val  int
}

// list is things of one kind in a row. A list that a method answers is new memory, as no answer shares any with an argument.
type list[T any] []T

// replaced has more things in place of those from one place up to another.
func (l list[T]) replaced(from int, to int, more ...T) list[T] {
	size := len(l) - (to - from) + len(more)
	if size == 0 {
		return nil
	}
	answer := make(list[T], 0, size)
	answer = append(answer, l[:from]...)
	answer = append(answer, more...)
	return append(answer, l[to:]...)
}

// same has all things as they are.
func (l list[T]) same() list[T] {
	return l.replaced(0, 0)
}

// with has one thing more, at a place.
func (l list[T]) with(at int, thing T) list[T] {
	return l.replaced(at, at, thing)
}

// without has all things but that at a place.
func (l list[T]) without(at int) list[T] {
	return l.replaced(at, at+1)
}

// find goes from thing to thing: it is the place of the first that is asked for, or that behind the end.
func (l list[T]) find(asked func(T) bool) int {
	for at, thing := range l {
		if asked(thing) {
			return at
		}
	}
	return len(l)
}

// findByHalves is find, of a list in which all things behind one that is asked for are asked for too.
func (l list[T]) findByHalves(asked func(T) bool) int {
	from, to := 0, len(l)
	for from < to {
		middle := from + (to-from)/2
		if asked(l[middle]) {
			to = middle
		} else {
			from = middle + 1
		}
	}
	return from
}

func within(n int, most int) bool {
	return 0 <= n && n <= most
}

func keysRise(entries []MapEntry) bool {
	for at := 1; at < len(entries); at++ {
		if entries[at].Key <= entries[at-1].Key {
			return false
		}
	}
	return true
}

// entryOf is the place of the first entry of a key, and true; else false, and, where keys rise, the place at which it would stand.
// Where they do not, halves would miss entries, and MapGet is asked of such ones too.
func entryOf(entries list[MapEntry], key int) (int, bool) {
	var at int
	if keysRise(entries) {
		at = entries.findByHalves(func(e MapEntry) bool { return e.Key >= key })
	} else {
		at = entries.find(func(e MapEntry) bool { return e.Key == key })
	}
	return at, at < len(entries) && entries[at].Key == key
}

// MapOk says whether entries are ok: keys rise.
func MapOk(m MapMap) bool {
	if len(m.Entries) > MapMax {
		return false
	}
	for _, e := range m.Entries {
		if !within(e.Key, KeyMax) || !within(e.Val, ValMax) {
			return false
		}
	}
	return keysRise(m.Entries)
}

// MapGet is what is there for a key.
func MapGet(m MapMap, key int) ResRes {
	at, there := entryOf(m.Entries, key)
	if !there {
		return ResRes{Code: ResNo}
	}
	return ResRes{Code: ResYes, Val: m.Entries[at].Val}
}

// MapPut is entries with one more, if its key is not there.
func MapPut(m MapMap, key int, val int) (MapMap, ResRes) {
	if !MapOk(m) || !within(key, KeyMax) || !within(val, ValMax) {
		return MapMap{}, ResRes{}
	}
	entries := list[MapEntry](m.Entries)
	at, there := entryOf(entries, key)
	if there {
		return MapMap{Entries: entries.same()}, ResRes{Code: ResNo}
	}
	if len(entries) == MapMax {
		return MapMap{Entries: entries.same()}, ResRes{Code: ResFull}
	}
	return MapMap{Entries: entries.with(at, MapEntry{Key: key, Val: val})}, ResRes{Code: ResYes}
}

// MapDel is entries without that of a key.
func MapDel(m MapMap, key int) (MapMap, ResRes) {
	if !MapOk(m) {
		return MapMap{}, ResRes{}
	}
	entries := list[MapEntry](m.Entries)
	at, there := entryOf(entries, key)
	if !there {
		return MapMap{Entries: entries.same()}, ResRes{Code: ResNo}
	}
	return MapMap{Entries: entries.without(at)}, ResRes{Code: ResYes, Val: entries[at].Val}
}

// ListOk says whether values are ok.
func ListOk(vals []int) bool {
	if len(vals) > MapMax {
		return false
	}
	for _, v := range vals {
		if !within(v, ValMax) {
			return false
		}
	}
	return true
}

// listPut is values with one more, at a place.
func listPut(vals list[int], at int, v int) ([]int, ResRes) {
	if !ListOk(vals) || !within(v, ValMax) {
		return nil, ResRes{}
	}
	if len(vals) == MapMax {
		return vals.same(), ResRes{Code: ResFull}
	}
	return vals.with(at, v), ResRes{Code: ResYes}
}

// StkPush is values with one more, first.
func StkPush(vals []int, v int) ([]int, ResRes) {
	return listPut(vals, 0, v)
}

// QuePut is values with one more, last.
func QuePut(vals []int, v int) ([]int, ResRes) {
	return listPut(vals, len(vals), v)
}

// ListTake is values without the first one, and that.
func ListTake(vals []int) ([]int, ResRes) {
	if !ListOk(vals) {
		return nil, ResRes{}
	}
	if len(vals) == 0 {
		return nil, ResRes{Code: ResNo}
	}
	return list[int](vals).without(0), ListFirst(vals)
}

// MapNext is the least key from a key on; of entries whose keys do not rise, that which stands first.
func MapNext(m MapMap, key int) ResRes {
	entries := list[MapEntry](m.Entries)
	at := entries.find(func(e MapEntry) bool { return e.Key >= key })
	if at == len(entries) {
		return ResRes{Code: ResNo}
	}
	return ResRes{Code: ResYes, Val: entries[at].Key}
}

// MapCount is how many keys there are from a key on; one that stands twice counts twice.
func MapCount(m MapMap, key int) ResRes {
	count := 0
	for _, e := range m.Entries {
		if e.Key >= key {
			count++
		}
	}
	return ResRes{Code: ResYes, Val: count}
}

// ListFirst is the first of values.
func ListFirst(vals []int) ResRes {
	if len(vals) == 0 {
		return ResRes{Code: ResNo}
	}
	return ResRes{Code: ResYes, Val: vals[0]}
}
