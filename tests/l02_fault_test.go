package tests

import (
	"math"
	"testing"

	"loop.example/g00680/impl"
)

// modelCase is a list with a fault.
type modelCase struct {
	name string
	list []impl.Pair
	dims int64
	want int64
}

// manyOf are n pairs in two dimensions, of which turn makes others.
func manyOf(n int, turn func([]impl.Pair)) []impl.Pair {
	list := somePairs(2, n)
	turn(list)
	return list
}

// Boxes with one fault each, named by the code that tells it.
var (
	rectForm  = flat(3, 0, 2, 2)
	rectMany  = solid(0, 0, 0, 1, 1, 1)
	rectRange = flat(0, 0, 1, 1001)
)

func modelFaults() []modelCase {
	good, late := flat(0, 0, 1, 1), pairOf(900, flat(0, 0, 1, 1))
	return []modelCase{
		{"no dims", nil, 0, impl.ErrRange},
		{"one dim", nil, 1, impl.ErrRange},
		{"four dims", nil, 4, impl.ErrRange},
		{"the least dims", nil, math.MinInt64, impl.ErrRange},
		{"the most dims", nil, math.MaxInt64, impl.ErrRange},
		{"dims that are 2 in 32 bits", nil, 1<<32 + 2, impl.ErrRange},
		{"one pair too many", somePairs(2, 61), 2, impl.ErrMany},
		{"far too many pairs", somePairs(2, 300), 2, impl.ErrMany},
		{"an Id below 0", []impl.Pair{pairOf(-1, good)}, 2, impl.ErrRange},
		{"an Id above the bounds", []impl.Pair{pairOf(1000, good)}, 2, impl.ErrRange},
		{"the least Id of all", []impl.Pair{pairOf(math.MinInt64, good)}, 2, impl.ErrRange},
		{"the greatest Id of all", []impl.Pair{pairOf(1, good), pairOf(math.MaxInt64, good)}, 2, impl.ErrRange},
		{"no box", []impl.Pair{{Id: 1}}, 2, impl.ErrMany},
		{"a box of other dims", []impl.Pair{pairOf(1, rectMany)}, 2, impl.ErrMany},
		{"a flat box in three dims", []impl.Pair{pairOf(1, good)}, 3, impl.ErrMany},
		{"a box out of bounds", []impl.Pair{pairOf(1, rectRange)}, 2, impl.ErrRange},
		{"a box turned over", []impl.Pair{pairOf(1, rectForm)}, 2, impl.ErrForm},
		{"a box turned over, behind right ones", append(somePairs(2, 59), pairOf(900, rectForm)), 2, impl.ErrForm},
		{"an Id twice", []impl.Pair{pairOf(1, good), pairOf(1, good)}, 2, impl.ErrForm},
		{"an Id twice, at the end", []impl.Pair{pairOf(1, good), pairOf(2, good), pairOf(2, flat(5, 5, 6, 6))}, 2, impl.ErrForm},
		{"Ids that fall", []impl.Pair{pairOf(2, good), pairOf(1, good)}, 2, impl.ErrForm},
		{"Ids that fall later", []impl.Pair{pairOf(0, good), late, pairOf(899, good)}, 2, impl.ErrForm},
		{"an Id twice, not side by side", []impl.Pair{pairOf(1, good), pairOf(2, good), pairOf(1, good)}, 2, impl.ErrForm},
	}
}

// Where two are so at once, the one that the chapter names first is told.
func modelFaultsAtOnce() []modelCase {
	good := flat(0, 0, 1, 1)
	return []modelCase{
		{"dims ahead of too many", somePairs(2, 61), 4, impl.ErrRange},
		{"dims ahead of an Id", []impl.Pair{pairOf(-1, good)}, 1, impl.ErrRange},
		{"dims ahead of a box turned over", []impl.Pair{pairOf(1, rectForm)}, 4, impl.ErrRange},
		{"dims ahead of a box of other dims", []impl.Pair{pairOf(1, rectMany)}, 1, impl.ErrRange},
		{"dims ahead of the order", []impl.Pair{pairOf(1, good), pairOf(1, good)}, 0, impl.ErrRange},
		{"too many ahead of an Id", manyOf(61, func(l []impl.Pair) { l[0].Id = -1 }), 2, impl.ErrMany},
		{"too many ahead of a box", manyOf(61, func(l []impl.Pair) { l[0].Rect = rectForm }), 2, impl.ErrMany},
		{"too many ahead of the order", manyOf(61, func(l []impl.Pair) { l[1].Id = l[0].Id }), 2, impl.ErrMany},
		{"an Id ahead of its box turned over", []impl.Pair{pairOf(-1, rectForm)}, 2, impl.ErrRange},
		{"an Id ahead of its box of other dims", []impl.Pair{pairOf(1000, rectMany)}, 2, impl.ErrRange},
		{"a box ahead of the next Id", []impl.Pair{pairOf(1, rectForm), pairOf(-1, good)}, 2, impl.ErrForm},
		{"a box of other dims ahead of the next Id", []impl.Pair{pairOf(1, rectMany), pairOf(1000, good)}, 2, impl.ErrMany},
		{"an Id ahead of the next box", []impl.Pair{pairOf(1000, good), pairOf(2, rectForm)}, 2, impl.ErrRange},
		{"a box ahead of the next box", []impl.Pair{pairOf(1, rectForm), pairOf(2, rectMany)}, 2, impl.ErrForm},
		{"an Id ahead of the order", []impl.Pair{pairOf(1, good), pairOf(-1, good)}, 2, impl.ErrRange},
		{"an Id ahead of the order, behind it", []impl.Pair{pairOf(1, good), pairOf(1, good), pairOf(1000, good)}, 2, impl.ErrRange},
		{"a box ahead of the order", []impl.Pair{pairOf(2, good), pairOf(1, rectMany)}, 2, impl.ErrMany},
		{"a box ahead of the order, behind it", []impl.Pair{pairOf(2, good), pairOf(2, good), pairOf(3, rectRange)}, 2, impl.ErrRange},
	}
}

func TestModelFault(t *testing.T) {
	for _, c := range append(modelFaults(), modelFaultsAtOnce()...) {
		t.Run(c.name, func(t *testing.T) {
			if got := impl.ModelFault(c.list, c.dims); got != c.want {
				t.Errorf("%d, not %d", got, c.want)
			}
		})
	}
	for dims := int64(2); dims <= 3; dims++ {
		for n := range impl.MaxPairs + 1 {
			if got := impl.ModelFault(somePairs(dims, n), dims); got != impl.OK {
				t.Errorf("%d right pairs in %d dimensions: %d", n, dims, got)
			}
		}
	}
	utmost := []impl.Pair{pairOf(0, flat(-1000, -1000, 1000, 1000)), pairOf(999, flat(1000, -1000, 1000, -1000))}
	if got := impl.ModelFault(utmost, 2); got != impl.OK {
		t.Errorf("at the bounds: %d", got)
	}
}

// All that is asked of a list asks the ModelFault first, ahead of what else is
// wrong with the other arguments.
func TestModelFaultIsAskedFirst(t *testing.T) {
	pairs := []impl.Pair{pairOf(1, flat(0, 0, 1, 1)), pairOf(-1, rectForm), pairOf(1, rectForm), pairOf(1, rectMany), pairOf(1000, flat(0, 0, 1, 1))}
	queries := []impl.Query{{}, pointAt(0, 0), nearTo(0, 0, 0), nearTo(0), windowOf(rectForm), {Kind: 9, K: 4}}
	for _, c := range append(modelFaults(), modelFaultsAtOnce()...) {
		t.Run(c.name, func(t *testing.T) {
			for _, id := range []int64{1, -1, 1000} {
				got := impl.FindPair(c.list, c.dims, id)
				if got.Code != c.want || got.Pair.Id != 0 || len(got.Pair.Rect.Low) != 0 || len(got.Pair.Rect.High) != 0 {
					t.Errorf("FindPair: %v, not the code %d alone", got, c.want)
				}
			}
			for _, p := range pairs {
				wantCode(t, "AddPair", impl.AddPair(c.list, c.dims, p), c.want)
				wantCode(t, "TakePair", impl.TakePair(c.list, c.dims, p), c.want)
			}
			for _, q := range queries {
				wantCode(t, "AnswerOf", impl.AnswerOf(c.list, c.dims, q), c.want)
			}
		})
	}
}

func TestFaultOfThePair(t *testing.T) {
	list, full := somePairs(2, 3), somePairs(2, 60)
	cases := []struct {
		name string
		list []impl.Pair
		p    impl.Pair
		add  int64
		take int64
	}{
		{"an Id below 0", list, pairOf(-1, list[0].Rect), impl.ErrRange, impl.ErrRange},
		{"an Id above the bounds", list, pairOf(1000, list[0].Rect), impl.ErrRange, impl.ErrRange},
		{"the utmost Id", list, pairOf(math.MaxInt64, list[0].Rect), impl.ErrRange, impl.ErrRange},
		{"no box", list, impl.Pair{Id: 1}, impl.ErrMany, impl.ErrMany},
		{"a box of other dims", list, pairOf(1, rectMany), impl.ErrMany, impl.ErrMany},
		{"a box out of bounds", list, pairOf(1, rectRange), impl.ErrRange, impl.ErrRange},
		{"a box turned over", list, pairOf(1, rectForm), impl.ErrForm, impl.ErrForm},
		{"an Id that is there", list, pairOf(13, flat(0, 0, 7, 7)), impl.ErrTaken, impl.ErrNone},
		{"an Id ahead of a box turned over", list, pairOf(-1, rectForm), impl.ErrRange, impl.ErrRange},
		{"an Id ahead of no box", list, impl.Pair{Id: 1000}, impl.ErrRange, impl.ErrRange},
		{"a box turned over, and the Id is there", list, pairOf(13, rectForm), impl.ErrForm, impl.ErrForm},
		{"no box, and the Id is there", list, impl.Pair{Id: 13}, impl.ErrMany, impl.ErrMany},
		{"an Id out of bounds, and no room", full, pairOf(-1, list[0].Rect), impl.ErrRange, impl.ErrRange},
		{"a box turned over, and no room", full, pairOf(0, rectForm), impl.ErrForm, impl.ErrForm},
		{"an Id that is there, and no room", full, pairOf(13, flat(0, 0, 7, 7)), impl.ErrTaken, impl.ErrNone},
		{"no room", full, pairOf(0, flat(0, 0, 7, 7)), impl.ErrFull, impl.ErrNone},
	}
	for _, c := range cases {
		t.Run(c.name, func(t *testing.T) {
			wantCode(t, "AddPair", impl.AddPair(c.list, 2, c.p), c.add)
			wantCode(t, "TakePair", impl.TakePair(c.list, 2, c.p), c.take)
		})
	}
}

// queryCase is a query with a fault.
type queryCase struct {
	name string
	q    impl.Query
	dims int64
	want int64
}

func rightQueries(dims int64) []impl.Query {
	r := rightBox(dims)
	return []impl.Query{
		windowOf(r), insideOf(r), pointAt(r.Low...), nearTo(1, r.Low...), nearTo(10, r.High...), nearTo(20, r.High...),
		windowOf(impl.Rect{Low: r.High, High: r.High}), insideOf(impl.Rect{Low: r.Low, High: r.Low}),
	}
}

func queryFaults() []queryCase {
	return []queryCase{
		{"no dims", pointAt(), 0, impl.ErrRange},
		{"one dim", pointAt(1), 1, impl.ErrRange},
		{"four dims", pointAt(1, 2, 3, 4), 4, impl.ErrRange},
		{"the least dims", pointAt(1, 2), math.MinInt64, impl.ErrRange},
		{"the most dims", pointAt(1, 2), math.MaxInt64, impl.ErrRange},
		{"window, no box", windowOf(impl.Rect{}), 2, impl.ErrMany},
		{"window, turned over", windowOf(rectForm), 2, impl.ErrForm},
		{"window, out of bounds", windowOf(rectRange), 2, impl.ErrRange},
		{"window, of other dims", windowOf(rectMany), 2, impl.ErrMany},
		{"window, flat in three dims", windowOf(rightBox(2)), 3, impl.ErrMany},
		{"inside, no box", insideOf(impl.Rect{}), 3, impl.ErrMany},
		{"inside, turned over", insideOf(rectForm), 2, impl.ErrForm},
		{"inside, out of bounds", insideOf(rectRange), 2, impl.ErrRange},
		{"inside, of other dims", insideOf(rectMany), 2, impl.ErrMany},
		{"point, none", pointAt(), 2, impl.ErrMany},
		{"point, too short", pointAt(1, 2), 3, impl.ErrMany},
		{"point, too long", pointAt(1, 2, 3), 2, impl.ErrMany},
		{"point, out of bounds", pointAt(0, -1001), 2, impl.ErrRange},
		{"near, no point", nearTo(1), 2, impl.ErrMany},
		{"near, point too long", nearTo(20, 1, 2, 3), 2, impl.ErrMany},
		{"near, point out of bounds", nearTo(1, 1001, 0), 2, impl.ErrRange},
		{"near, K is 0", nearTo(0, 1, 2), 2, impl.ErrRange},
		{"near, K is 21", nearTo(21, 1, 2), 2, impl.ErrRange},
		{"near, K below 0", nearTo(-1, 1, 2, 3), 3, impl.ErrRange},
		{"near, the least K", nearTo(math.MinInt64, 1, 2), 2, impl.ErrRange},
		{"near, the most K", nearTo(math.MaxInt64, 1, 2), 2, impl.ErrRange},
		{"near, K that is 1 in 32 bits", nearTo(1<<32+1, 1, 2), 2, impl.ErrRange},
	}
}

func queryFaultsAtOnce() []queryCase {
	return []queryCase{
		{"dims ahead of the kind", impl.Query{}, 1, impl.ErrRange},
		{"dims ahead of what is not named", impl.Query{Kind: impl.AskPoint, Point: []int64{1, 2}, K: 1}, 4, impl.ErrRange},
		{"dims ahead of the box", windowOf(rectForm), 4, impl.ErrRange},
		{"dims ahead of the point", pointAt(), 1, impl.ErrRange},
		{"the kind ahead of the box", impl.Query{Kind: 5, Rect: rectMany}, 2, impl.ErrForm},
		{"the kind ahead of the point", impl.Query{Kind: 0, Point: []int64{1}}, 2, impl.ErrForm},
		{"the kind ahead of K", impl.Query{Kind: -1, K: 50}, 2, impl.ErrForm},
		{"what is not named ahead of the box", impl.Query{Kind: impl.AskWindow, Rect: rectMany, K: 1}, 2, impl.ErrForm},
		{"a point that is not named ahead of no box", impl.Query{Kind: impl.AskInside, Point: []int64{1, 2}}, 2, impl.ErrForm},
		{"a box that is not named ahead of no point", impl.Query{Kind: impl.AskPoint, Rect: rightBox(2)}, 2, impl.ErrForm},
		{"a box that is not named ahead of the point", impl.Query{Kind: impl.AskNear, Rect: rightBox(2), Point: []int64{1}, K: 1}, 2, impl.ErrForm},
		{"a box that is not named ahead of K", impl.Query{Kind: impl.AskNear, Rect: rightBox(2), Point: []int64{1, 2}}, 2, impl.ErrForm},
		{"the point ahead of K", nearTo(0, 1), 2, impl.ErrMany},
		{"no point ahead of K", nearTo(21), 3, impl.ErrMany},
	}
}

func sayQuery(t *testing.T, q impl.Query, dims int64, want int64) {
	t.Helper()
	if got := impl.QueryFault(q, dims); got != want {
		t.Errorf("QueryFault %v: %d, not %d", q, got, want)
	}
	if dims != 2 && dims != 3 {
		return
	}
	if got := impl.Matches(q, dims, rightBox(dims)); got && want != impl.OK {
		t.Errorf("%v matches, with a fault", q)
	}
	if got := impl.AnswerOf(somePairs(dims, 4), dims, q); got.Code != want || want != impl.OK && len(got.Pairs) != 0 {
		t.Errorf("AnswerOf %v: %v, not the code %d", q, got, want)
	}
}

func TestQueryFault(t *testing.T) {
	for _, c := range append(queryFaults(), queryFaultsAtOnce()...) {
		t.Run(c.name, func(t *testing.T) {
			sayQuery(t, c.q, c.dims, c.want)
		})
	}
	for dims := int64(2); dims <= 3; dims++ {
		for _, q := range rightQueries(dims) {
			sayQuery(t, q, dims, impl.OK)
		}
	}
}

func TestKindThatIsNone(t *testing.T) {
	for dims := int64(2); dims <= 3; dims++ {
		for _, kind := range []int64{0, 5, -1, -4, 100, math.MinInt64, math.MaxInt64, 1<<32 + 1} {
			sayQuery(t, impl.Query{Kind: kind}, dims, impl.ErrForm)
			for _, q := range rightQueries(dims) {
				q.Kind = kind
				sayQuery(t, q, dims, impl.ErrForm)
			}
		}
	}
}

// Each field that a kind does not name, set by the least that can be.
func TestWhatAKindDoesNotName(t *testing.T) {
	for dims := int64(2); dims <= 3; dims++ {
		for _, q := range rightQueries(dims) {
			boxed := q.Kind == impl.AskWindow || q.Kind == impl.AskInside
			for _, list := range [][]int64{{0}, {0, 0}, {0, 0, 0}} {
				low, high, point := q, q, q
				low.Rect.Low, high.Rect.High, point.Point = list, list, list
				if boxed {
					sayQuery(t, point, dims, impl.ErrForm)
				} else {
					sayQuery(t, low, dims, impl.ErrForm)
					sayQuery(t, high, dims, impl.ErrForm)
				}
			}
			for _, k := range []int64{1, -1, 20, math.MinInt64, math.MaxInt64} {
				counted := q
				counted.K = k
				if q.Kind != impl.AskNear {
					sayQuery(t, counted, dims, impl.ErrForm)
				}
			}
		}
	}
}

// What is empty is not told apart from what is nil.
func TestWhatAKindDoesNotNameMayBeEmpty(t *testing.T) {
	for dims := int64(2); dims <= 3; dims++ {
		for _, q := range rightQueries(dims) {
			if q.Kind == impl.AskWindow || q.Kind == impl.AskInside {
				q.Point = []int64{}
			} else {
				q.Rect = impl.Rect{Low: []int64{}, High: []int64{}}
			}
			sayQuery(t, q, dims, impl.OK)
		}
	}
}

func TestMatchesWithAFaultOfTheBox(t *testing.T) {
	for _, c := range append(ownFaults(), otherFaults()...) {
		for dims := int64(2); dims <= 3; dims++ {
			if impl.RectFault(c.r, dims) == impl.OK {
				continue
			}
			queries := append(rightQueries(dims), windowOf(utmostBox(dims)), insideOf(utmostBox(dims)))
			for _, q := range queries {
				if impl.Matches(q, dims, c.r) {
					t.Errorf("%s: %v matches %v", c.name, c.r, q)
				}
			}
		}
	}
}

func utmostBox(dims int64) impl.Rect {
	if dims == 3 {
		return solid(-1000, -1000, -1000, 1000, 1000, 1000)
	}
	return flat(-1000, -1000, 1000, 1000)
}

func TestMatchesWithWrongDims(t *testing.T) {
	for _, dims := range []int64{0, 1, 4, -2, math.MinInt64, math.MaxInt64} {
		for _, q := range append(rightQueries(2), rightQueries(3)...) {
			if impl.Matches(q, dims, rightBox(2)) || impl.Matches(q, dims, rightBox(3)) {
				t.Errorf("something matches %v in %d dimensions", q, dims)
			}
		}
	}
}
