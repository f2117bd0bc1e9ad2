package tests

import (
	"math"
	"testing"

	"loop.example/tuggers/impl"
)

func op(kind int, keyAndVal ...int) impl.OpOp {
	o := impl.OpOp{Kind: kind}
	if len(keyAndVal) > 0 {
		o.Key = keyAndVal[0]
	}
	if len(keyAndVal) > 1 {
		o.Val = keyAndVal[1]
	}
	return o
}

// kindHas is one kind of what may be asked, and what it has.
type kindHas struct {
	name     string
	kind     int
	key, val bool
}

// kinds are the document's numbers, not the program's names for them.
func kinds() []kindHas {
	return []kindHas{
		{"get", 1, true, false},
		{"put", 2, true, true},
		{"delete", 3, true, false},
		{"clear", 4, false, false},
		{"push", 5, false, true},
		{"pop", 6, false, false},
		{"enter", 7, false, true},
		{"leave", 8, false, false},
		{"next", 9, true, false},
		{"count", 10, true, false},
		{"top", 11, false, false},
		{"front", 12, false, false},
	}
}

// noKinds are kinds that are none.
func noKinds() []int {
	return []int{math.MinInt, -12, -1, 0, 13, 14, 100, math.MaxInt}
}

// ops are things that may be asked: of each kind the least, the greatest, and one between.
func ops() []impl.OpOp {
	var all []impl.OpOp
	for _, has := range kinds() {
		most := impl.OpOp{Kind: has.kind}
		if has.key {
			most.Key = impl.KeyMax
		}
		if has.val {
			most.Val = impl.ValMax
		}
		all = append(all, op(has.kind), op(has.kind, most.Key/2, most.Val/2), most)
	}
	return all
}

// wrongOps are things that may not be asked: of each kind each part beyond each of its bounds, all others as they may be; and kinds that are none.
func wrongOps() []impl.OpOp {
	var all []impl.OpOp
	for _, has := range kinds() {
		keys, vals := []int{math.MinInt, -1}, []int{math.MinInt, -1}
		if has.key {
			keys = append(keys, impl.KeyMax+1, math.MaxInt)
		} else {
			keys = append(keys, 1, 50, impl.KeyMax, impl.KeyMax+1, math.MaxInt)
		}
		if has.val {
			vals = append(vals, impl.ValMax+1, math.MaxInt)
		} else {
			vals = append(vals, 1, 500, impl.ValMax, impl.ValMax+1, math.MaxInt)
		}
		for _, key := range keys {
			all = append(all, op(has.kind, key, 0))
		}
		for _, val := range vals {
			all = append(all, op(has.kind, 0, val))
		}
		all = append(all, op(has.kind, -1, -1), op(has.kind, impl.KeyMax+1, impl.ValMax+1))
	}
	for _, kind := range noKinds() {
		all = append(all, op(kind), op(kind, 1), op(kind, 0, 1), op(kind, 1, 1))
	}
	return all
}

// noPcs are numbers at which no hand is.
func noPcs() []int {
	return []int{math.MinInt, -41, -4, -1, 41, 42, 100, math.MaxInt}
}

// anyPcs are where a hand can be, and where none is.
func anyPcs() []int {
	all := noPcs()
	for pc := 0; pc <= 40; pc++ {
		all = append(all, pc)
	}
	return all
}

// busyHand has something in each of its fields, and no two places alike.
func busyHand(pc int) impl.HndHand {
	return impl.HndHand{
		Pc:    pc,
		Op:    op(impl.OpPut, 3, 7),
		Begin: 4,
		Pred:  impl.HndRef{At: 2, Gen: 5},
		Curr:  impl.HndRef{At: 3, Gen: 6},
		Succ:  8,
		Read:  9,
		Own:   impl.HndRef{At: 5, Gen: 7},
		Old:   impl.HndRef{At: 6, Gen: 8},
		Seen:  1,
		Scan:  2,
		Res:   yes(7),
		Point: 10,
		Done:  true,
		Trace: "0:4:1;",
		Last:  "0:6:2;",
		Mid:   11,
		Num:   1,
	}
}

// nearlyIdle are hands at PcIdle that have one thing else, by the name of that.
func nearlyIdle() map[string]impl.HndHand {
	return map[string]impl.HndHand{
		"Op's kind":    {Op: op(impl.OpGet)},
		"Op's key":     {Op: op(0, 1)},
		"Op's value":   {Op: op(0, 0, 1)},
		"Begin":        {Begin: 1},
		"Begin below":  {Begin: -1},
		"Pred's place": {Pred: impl.HndRef{At: 1}},
		"Pred's Gen":   {Pred: impl.HndRef{Gen: 1}},
		"Curr's place": {Curr: impl.HndRef{At: 1}},
		"Curr's Gen":   {Curr: impl.HndRef{Gen: 1}},
		"Succ":         {Succ: 1},
		"Read":         {Read: 1},
		"Own's place":  {Own: impl.HndRef{At: 1}},
		"Own's Gen":    {Own: impl.HndRef{Gen: 1}},
		"Old's place":  {Old: impl.HndRef{At: 1}},
		"Old's Gen":    {Old: impl.HndRef{Gen: 1}},
		"Seen":         {Seen: 1},
		"Scan":         {Scan: 1},
		"Res's code":   {Res: no},
		"Res's value":  {Res: impl.ResRes{Val: 1}},
		"Point":        {Point: 1},
		"Done":         {Done: true},
		"Trace":        {Trace: "0"},
		"a nought":     {Trace: "\x00"},
		"Last":         {Last: "0"},
		"Mid":          {Mid: 1},
		"Num":          {Num: 1},
	}
}

func wantOpOk(t *testing.T, o impl.OpOp, want bool, of ...any) {
	t.Helper()
	if got := impl.OpOk(o); got != want {
		t.Errorf("that %v may be asked is %v, want %v, of %v", o, got, want, of)
	}
}

func wantBegin(t *testing.T, h impl.HndHand, o impl.OpOp, now int, want impl.HndHand, of ...any) {
	t.Helper()
	if got := impl.HndBegin(h, o, now); got != want {
		t.Errorf("%v, asked %v at %d, is %v, want %v, of %v", h, o, now, got, want, of)
	}
}

func wantTouch(t *testing.T, h impl.HndHand, want impl.HndRef, wantOk bool, of ...any) {
	t.Helper()
	if got, ok := impl.HndTouch(h); got != want || ok != wantOk {
		t.Errorf("at %d a hand touches %v %v, want %v %v, of %v", h.Pc, got, ok, want, wantOk, of)
	}
}
