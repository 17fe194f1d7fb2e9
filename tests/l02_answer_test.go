package tests

import (
	"slices"
	"testing"

	"loop.example/g00680/impl"
)

func windowOf(r impl.Rect) impl.Query {
	return impl.Query{Kind: impl.AskWindow, Rect: r}
}

func insideOf(r impl.Rect) impl.Query {
	return impl.Query{Kind: impl.AskInside, Rect: r}
}

func pointAt(p ...int64) impl.Query {
	return impl.Query{Kind: impl.AskPoint, Point: p}
}

func nearTo(k int64, p ...int64) impl.Query {
	return impl.Query{Kind: impl.AskNear, Point: p, K: k}
}

// answerCase tells the Ids of an answer, in order.
type answerCase struct {
	name string
	q    impl.Query
	want []int64
}

func sayAnswers(t *testing.T, list []impl.Pair, dims int64, cases []answerCase) {
	t.Helper()
	for _, c := range cases {
		t.Run(c.name, func(t *testing.T) {
			var want []impl.Pair
			for _, id := range c.want {
				want = append(want, list[slices.Index(idsOf(list), id)])
			}
			wantPairs(t, "AnswerOf", impl.AnswerOf(list, dims, c.q), want)
			for _, p := range list {
				matches := c.q.Kind == impl.AskNear || slices.Contains(c.want, p.Id)
				if got := impl.Matches(c.q, dims, p.Rect); got != matches {
					t.Errorf("Matches %v: %v", p, got)
				}
			}
		})
	}
}

func flatPairs() []impl.Pair {
	return []impl.Pair{
		pairOf(1, flat(0, 0, 4, 4)),
		pairOf(2, flat(4, 4, 6, 6)),
		pairOf(3, flat(2, 2, 2, 2)),
		pairOf(5, flat(1, 5, 3, 5)),
		pairOf(8, flat(-9, -9, -8, -8)),
		pairOf(9, flat(-10, -10, 10, 10)),
	}
}

func TestFlatAnswers(t *testing.T) {
	sayAnswers(t, flatPairs(), 2, []answerCase{
		{"window, all", windowOf(flat(-1000, -1000, 1000, 1000)), []int64{1, 2, 3, 5, 8, 9}},
		{"window, some", windowOf(flat(1, 1, 3, 3)), []int64{1, 3, 9}},
		{"window, a corner touches", windowOf(flat(6, 6, 7, 7)), []int64{2, 9}},
		{"window, a side touches", windowOf(flat(4, 0, 5, 1)), []int64{1, 9}},
		{"window, one beside the side", windowOf(flat(5, 0, 6, 1)), []int64{9}},
		{"window without area, at a corner of two", windowOf(flat(4, 4, 4, 4)), []int64{1, 2, 9}},
		{"window without area, on a point", windowOf(flat(2, 2, 2, 2)), []int64{1, 3, 9}},
		{"window, a line that crosses a line", windowOf(flat(2, 5, 2, 9)), []int64{5, 9}},
		{"window, a line beside", windowOf(flat(11, -20, 11, 20)), nil},
		{"window, only the outermost corner", windowOf(flat(10, 10, 11, 11)), []int64{9}},
		{"window, nothing", windowOf(flat(11, 11, 12, 12)), nil},
		{"inside, all", insideOf(flat(-10, -10, 10, 10)), []int64{1, 2, 3, 5, 8, 9}},
		{"inside, all but one", insideOf(flat(-9, -9, 6, 6)), []int64{1, 2, 3, 5, 8}},
		{"inside, the box itself", insideOf(flat(4, 4, 6, 6)), []int64{2}},
		{"inside, one too narrow", insideOf(flat(4, 4, 6, 5)), nil},
		{"inside, at the border", insideOf(flat(0, 0, 4, 5)), []int64{1, 3, 5}},
		{"inside without area, on a point", insideOf(flat(2, 2, 2, 2)), []int64{3}},
		{"inside without area, a line and itself", insideOf(flat(1, 5, 3, 5)), []int64{5}},
		{"inside, within a box but around none", insideOf(flat(0, 0, 1, 1)), nil},
		{"point, in some", pointAt(2, 2), []int64{1, 3, 9}},
		{"point, at a corner of two", pointAt(4, 4), []int64{1, 2, 9}},
		{"point, on a line", pointAt(3, 5), []int64{5, 9}},
		{"point, at the end of a line", pointAt(1, 5), []int64{5, 9}},
		{"point, beyond the end of a line", pointAt(0, 5), []int64{9}},
		{"point, on a side", pointAt(-8, -9), []int64{8, 9}},
		{"point, on the outermost corner", pointAt(-10, 10), []int64{9}},
		{"point, in none", pointAt(-11, 10), nil},
	})
}

func solidPairs() []impl.Pair {
	return []impl.Pair{
		pairOf(0, solid(0, 0, 0, 4, 4, 4)),
		pairOf(7, solid(4, 4, 4, 5, 5, 5)),
		pairOf(20, solid(1, 1, 2, 3, 3, 2)),
		pairOf(21, solid(2, 2, 2, 2, 2, 2)),
		pairOf(999, solid(0, 0, 9, 4, 4, 9)),
	}
}

func TestSolidAnswers(t *testing.T) {
	sayAnswers(t, solidPairs(), 3, []answerCase{
		{"window, all", windowOf(solid(-1000, -1000, -1000, 1000, 1000, 1000)), []int64{0, 7, 20, 21, 999}},
		{"window, apart in depth alone", windowOf(solid(0, 0, 6, 4, 4, 8)), nil},
		{"window, touches in depth", windowOf(solid(0, 0, 5, 9, 9, 9)), []int64{7, 999}},
		{"window, a corner touches", windowOf(solid(4, 4, 4, 4, 4, 4)), []int64{0, 7}},
		{"window, a sheet", windowOf(solid(1, 1, 2, 3, 3, 2)), []int64{0, 20, 21}},
		{"inside, all", insideOf(solid(0, 0, 0, 5, 5, 9)), []int64{0, 7, 20, 21, 999}},
		{"inside, a sheet", insideOf(solid(1, 1, 2, 3, 3, 2)), []int64{20, 21}},
		{"inside, too flat", insideOf(solid(0, 0, 0, 5, 5, 4)), []int64{0, 20, 21}},
		{"inside, a point", insideOf(solid(2, 2, 2, 2, 2, 2)), []int64{21}},
		{"inside, nothing", insideOf(solid(0, 0, 5, 4, 4, 8)), nil},
		{"point, in some", pointAt(2, 2, 2), []int64{0, 20, 21}},
		{"point, beside the sheet", pointAt(2, 2, 3), []int64{0}},
		{"point, at a corner of two", pointAt(4, 4, 4), []int64{0, 7}},
		{"point, in none", pointAt(2, 2, 8), nil},
		{"near, all", nearTo(20, 2, 2, 2), []int64{0, 20, 21, 7, 999}},
		{"near, in depth", nearTo(3, 2, 2, 8), []int64{999, 0, 20}},
		{"near, one", nearTo(1, 5, 5, 5), []int64{7}},
	})
}

func TestNearestInFlat(t *testing.T) {
	// From 0,0 the Ids are 3, 1, 1, 0, 3, 2 and 2 away, in this order.
	list := []impl.Pair{
		pairOf(10, flat(3, 0, 3, 0)),
		pairOf(20, flat(0, 1, 9, 9)),
		pairOf(30, flat(-5, -5, -1, 0)),
		pairOf(40, flat(-1, -1, 1, 1)),
		pairOf(50, flat(1, 2, 8, 2)),
		pairOf(60, flat(1, 1, 1, 1)),
		pairOf(70, flat(-7, -7, -1, -1)),
	}
	order := []int64{40, 20, 30, 60, 70, 10, 50}
	var cases []answerCase
	for k := 1; k <= impl.MaxNear; k++ {
		cases = append(cases, answerCase{"K", nearTo(int64(k), 0, 0), order[:min(k, len(order))]})
	}
	sayAnswers(t, list, 2, cases)
}

// All boxes are as far: the Ids alone tell the order.
func TestNearestWithEqualDistances(t *testing.T) {
	around := []impl.Rect{flat(5, 0, 5, 0), flat(0, 5, 0, 5), flat(-5, 0, -5, 0), flat(0, -5, 0, -5), flat(2, 3, 9, 9), flat(-9, -9, -4, -1)}
	var list []impl.Pair
	for i := range impl.MaxPairs {
		list = append(list, pairOf(int64(900-7*i), around[i%len(around)]))
	}
	slices.Reverse(list)
	for k := 1; k <= impl.MaxNear; k++ {
		wantPairs(t, "AnswerOf", impl.AnswerOf(list, 2, nearTo(int64(k), 0, 0)), list[:k])
	}
	nearer := impl.AddPair(list[1:], 2, pairOf(999, flat(4, 0, 5, 0)))
	got := impl.AnswerOf(nearer.Pairs, 2, nearTo(3, 0, 0))
	wantPairs(t, "AnswerOf with a nearer one behind", got, []impl.Pair{pairOf(999, flat(4, 0, 5, 0)), list[1], list[2]})
}

// With K below, at and above how many there are.
func TestNearestWithKAroundTheCount(t *testing.T) {
	for dims := int64(2); dims <= 3; dims++ {
		p := make([]int64, dims)
		for n := range impl.MaxNear + 3 {
			list := somePairs(dims, n)
			for _, k := range []int{1, n - 1, n, n + 1, impl.MaxNear} {
				if k < 1 || k > impl.MaxNear {
					continue
				}
				got := impl.AnswerOf(list, dims, nearTo(int64(k), p...))
				if got.Code != impl.OK || len(got.Pairs) != min(k, n) {
					t.Errorf("%d of %d pairs: %v", k, n, got)
				}
			}
		}
	}
}

func TestAnswersOfNothing(t *testing.T) {
	for _, none := range [][]impl.Pair{nil, {}} {
		for _, q := range []impl.Query{windowOf(flat(0, 0, 1, 1)), insideOf(flat(0, 0, 1, 1)), pointAt(0, 0), nearTo(1, 0, 0), nearTo(20, 0, 0)} {
			wantPairs(t, "AnswerOf", impl.AnswerOf(none, 2, q), nil)
		}
	}
}

// countedOut is the answer told by the points of a lattice alone.
func (l lattice) countedOut(list []impl.Pair, q impl.Query) []impl.Pair {
	var want []impl.Pair
	for _, p := range list {
		if l.matches(q, p.Rect) {
			want = append(want, p)
		}
	}
	if q.Kind != impl.AskNear {
		return want
	}
	var first []impl.Pair
	for dist := int64(0); int64(len(first)) < min(q.K, int64(len(want))); dist++ {
		for _, p := range want {
			if l.nearest(p.Rect, q.Point) == dist && int64(len(first)) < q.K {
				first = append(first, p)
			}
		}
	}
	return first
}

func (l lattice) matches(q impl.Query, r impl.Rect) bool {
	switch q.Kind {
	case impl.AskWindow:
		return l.meets(q.Rect, r)
	case impl.AskInside:
		return l.covers(q.Rect, r)
	case impl.AskPoint:
		return hasPoint(r, q.Point)
	}
	return true
}

func (l lattice) queries() []impl.Query {
	var list []impl.Query
	for _, r := range l.boxes {
		list = append(list, windowOf(r), insideOf(r))
	}
	for _, p := range l.points {
		list = append(list, pointAt(p...), nearTo(1, p...), nearTo(7, p...), nearTo(20, p...))
	}
	return list
}

func TestMatchesCountedOut(t *testing.T) {
	for _, l := range lattices() {
		dims := int64(len(l.points[0]))
		for _, q := range l.queries() {
			for _, r := range l.boxes {
				if got := impl.Matches(q, dims, r); got != l.matches(q, r) {
					t.Fatalf("Matches %v and %v: %v", q, r, got)
				}
			}
		}
	}
}

// lists lays all boxes of the lattice into lists of MaxPairs, no two Ids of a
// list in the order of the boxes, and adds a short list and an empty one.
func (l lattice) lists() [][]impl.Pair {
	lists := [][]impl.Pair{nil}
	for from := 0; from < len(l.boxes); from += impl.MaxPairs {
		var list []impl.Pair
		for i := range min(impl.MaxPairs, len(l.boxes)-from) {
			list = append(list, pairOf(int64(i*401%1000), l.boxes[from+i]))
		}
		slices.SortFunc(list, func(a impl.Pair, b impl.Pair) int { return int(a.Id - b.Id) })
		lists = append(lists, list)
	}
	return append(lists, lists[1][:7])
}

// Promise 3: an answer has all that matches, and nothing else; the nearest are
// in order.
func TestAnswersCountedOut(t *testing.T) {
	for _, l := range lattices() {
		dims := int64(len(l.points[0]))
		for _, list := range l.lists() {
			if code := impl.ModelFault(list, dims); code != impl.OK {
				t.Fatalf("ModelFault: %d", code)
			}
			for _, q := range l.queries() {
				wantPairs(t, "AnswerOf", impl.AnswerOf(list, dims, q), l.countedOut(list, q))
				if t.Failed() {
					t.Fatalf("%v of %v", q, list)
				}
			}
		}
	}
}
