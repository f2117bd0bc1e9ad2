package tests

import (
	"math"
	"slices"
	"testing"

	"loop.example/tuggers/impl"
)

// numbered are answers of those Points; each tells where it stood.
func numbered(points ...int) []impl.LogRec {
	var log []impl.LogRec
	for at, point := range points {
		log = append(log, impl.LogRec{Hand: at, Op: op(at%13, at), Res: yes(at), Begin: -at, Point: point, End: 7 * at})
	}
	return log
}

// logs are answers that are to be put in order, by the name of what is with their Points.
func logs() map[string][]impl.LogRec {
	c := chance(5)
	byChance := func(size, most int) []int {
		var points []int
		for range size {
			points = append(points, c.below(2*most)-most)
		}
		return points
	}
	same := make([]int, 100)
	return map[string][]impl.LogRec{
		"none":                  nil,
		"empty":                 {},
		"one":                   numbered(4),
		"one below 0":           numbered(-4),
		"two":                   numbered(3, 9),
		"two the other way":     numbered(9, 3),
		"two of the same Point": numbered(5, 5),
		"rising":                numbered(1, 2, 3, 4, 5),
		"falling":               numbered(5, 4, 3, 2, 1),
		"below 0":               numbered(-1, -5, 0, -3, 3, -5),
		"all of the same Point": numbered(same...),
		"the first is the last": numbered(append([]int{9}, same...)...),
		"the last is the first": numbered(append(slices.Clone(same), -9)...),
		"the bounds":            numbered(math.MaxInt, math.MinInt, 0, math.MaxInt, math.MinInt, -1, 1),
		"of few Points":         numbered(byChance(300, 3)...),
		"of many Points":        numbered(byChance(300, 1000)...),
		"of two Points":         numbered(byChance(60, 1)...),
		"a full log":            numbered(byChance(impl.LogMost, 100)...),
		"longer than a log":     numbered(byChance(2*impl.LogMost, 100)...),
		"nothings":              make([]impl.LogRec, 20),
	}
}

// P35

func TestSortIsByPoint(t *testing.T) {
	for name, log := range logs() {
		if got, want := impl.LinSort(log), plainSort(log); !slices.Equal(got, want) {
			t.Errorf("%s: got %v, want %v", name, got, want)
		}
	}
}

func TestSortHasAllOfItOnce(t *testing.T) {
	for name, log := range logs() {
		count := map[impl.LogRec]int{}
		for _, r := range log {
			count[r]++
		}
		for _, r := range impl.LinSort(log) {
			count[r]--
		}
		for r, n := range count {
			if n != 0 {
				t.Errorf("%s: of %v there are %d too few", name, r, n)
			}
		}
	}
}

func TestSortedPointsDoNotFall(t *testing.T) {
	for name, log := range logs() {
		got := impl.LinSort(log)
		for at := 1; at < len(got); at++ {
			if got[at].Point < got[at-1].Point {
				t.Errorf("%s: at %d there is %d behind %d", name, at, got[at].Point, got[at-1].Point)
			}
			// Where it stood is told by Hand.
			if got[at].Point == got[at-1].Point && got[at].Hand < got[at-1].Hand {
				t.Errorf("%s: at %d there is that which stood at %d behind that at %d", name, at, got[at].Hand, got[at-1].Hand)
			}
		}
	}
}

func TestSortTwiceIsAsOnce(t *testing.T) {
	for name, log := range logs() {
		once := impl.LinSort(log)
		if got := impl.LinSort(once); !slices.Equal(got, once) {
			t.Errorf("%s: got %v, want %v", name, got, once)
		}
	}
}

// Nothing but Point matters: not when it was asked or answered, nor by whom.
func TestSortGoesByPointAlone(t *testing.T) {
	log := []impl.LogRec{
		{Hand: 2, Op: popOp, Res: yes(9), Begin: 8, Point: 5, End: 9},
		{Hand: 1, Op: getOp, Res: no, Begin: 0, Point: 5, End: 1},
		{Hand: 0, Op: op(impl.OpGet, 1), Begin: 99, Point: 4, End: 99},
	}
	want := []impl.LogRec{log[2], log[0], log[1]}
	if got := impl.LinSort(log); !slices.Equal(got, want) {
		t.Errorf("got %v, want %v", got, want)
	}
}
