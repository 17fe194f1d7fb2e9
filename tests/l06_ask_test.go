package tests

import (
	"fmt"
	"slices"
	"testing"

	"loop.example/g00680/impl"
)

// withIdsAlone are the pairs of these Ids, with the boxes that hang on them.
func withIdsAlone(dims int64, ids ...int64) []impl.Pair {
	var list []impl.Pair
	for _, id := range ids {
		list = append(list, pairOf(id, idBox(dims, id)))
	}
	return list
}

func TestPairsInTheOrderOfTheIds(t *testing.T) {
	for dims := int64(2); dims <= 3; dims++ {
		wantPairs(t, "no entries", impl.PairsIn(oneLevel(dims, 0)), nil)
		wantPairs(t, "one entry", impl.PairsIn(oneLevel(dims, 1)), withIdsAlone(dims, 30))
		wantPairs(t, "one level", impl.PairsIn(oneLevel(dims, 4)), withIdsAlone(dims, 0, 4, 30, 999))
		wantPairs(t, "two levels", impl.PairsIn(twoLevels(dims)), withIdsAlone(dims, 0, 1, 4, 30, 39, 40, 517, 998, 999))
		want := withIdsAlone(dims, 0, 1, 2, 3, 4, 10, 20, 30, 50, 60, 70, 80, 100, 999)
		wantPairs(t, "three levels", impl.PairsIn(threeLevels(dims)), want)
	}
}

// Boxes that are alike, and one box in all leaves, are told once for each Id.
func TestPairsMayHaveOneBox(t *testing.T) {
	for dims := int64(2); dims <= 3; dims++ {
		for _, r := range []impl.Rect{utmostBox(dims), {Low: utmostBox(dims).High, High: utmostBox(dims).High}} {
			list := manyPairs(dims, 18)
			for i := range list {
				list[i].Rect = r
			}
			tr := grow(dims, list, times(6, 3), times(3, 2), []int{3})
			wantPairs(t, "PairsIn", impl.PairsIn(tr), sortedPairs(list))
			wantPairs(t, "AskTree", impl.AskTree(tr, windowOf(utmostBox(dims))), sortedPairs(list))
			wantPairs(t, "the nearest", impl.AskTree(tr, nearTo(5, r.High...)), sortedPairs(list)[:5])
		}
	}
}

// fullTrees have just as many pairs as may be listed.
func fullTrees(dims int64) []impl.Tree {
	return []impl.Tree{
		grown(dims, times(15, 4), []int{4, 4, 4, 3}, []int{4}),
		grown(dims, times(20, 3), times(5, 4), []int{3, 2}, []int{2}),
	}
}

// crowdedTrees have more pairs than may be listed, by one and by many.
func crowdedTrees(dims int64) []impl.Tree {
	return []impl.Tree{
		grown(dims, append(times(14, 4), 3, 2), times(4, 4), []int{4}),
		grown(dims, append([]int{2, 2, 3}, times(18, 3)...), times(7, 3), []int{3, 4}, []int{2}),
		grown(dims, times(16, 4), times(4, 4), []int{4}),
		grown(dims, times(29, 4), []int{4, 4, 4, 4, 4, 4, 3, 2}, []int{4, 4}, []int{2}),
	}
}

func TestAsManyPairsInATreeAsMayBe(t *testing.T) {
	for dims := int64(2); dims <= 3; dims++ {
		for _, tr := range fullTrees(dims) {
			want := sortedPairs(manyPairs(dims, impl.MaxPairs))
			wantPairs(t, "PairsIn", impl.PairsIn(tr), want)
			for _, q := range askedOf(dims, want) {
				wantPairs(t, fmt.Sprint("AskTree ", q), impl.AskTree(tr, q), impl.AnswerOf(want, dims, q).Pairs)
			}
		}
	}
}

// More pairs are no fault of the tree.
func TestMorePairsInATreeThanMayBe(t *testing.T) {
	for dims := int64(2); dims <= 3; dims++ {
		for i, tr := range crowdedTrees(dims) {
			levels := tr.Arena.Nodes[tr.Root].Level + 1
			if got := impl.TreeFault(tr); got != impl.OK {
				t.Errorf("%d: TreeFault %d", i, got)
			}
			sameInt(t, "HeightOf", impl.HeightOf(tr), levels)
			sameInt(t, "NeedOf", impl.NeedOf(tr), levels+1)
			if got := impl.ReachOf(tr); got.Code != impl.OK || !slices.Equal(got.List, tourOf(tr).met) {
				t.Errorf("%d: ReachOf %v", i, got)
			}
			wantCode(t, "PairsIn", impl.PairsIn(tr), impl.ErrMany)
			for _, q := range append(rightQueries(dims), nearTo(1, utmostBox(dims).High...), pointAt(utmostBox(dims).Low...)) {
				wantCode(t, fmt.Sprint("AskTree ", q), impl.AskTree(tr, q), impl.ErrMany)
			}
		}
	}
}

// askedOf are queries of each kind, by what all and by what some of the pairs
// match, and by what none does.
func askedOf(dims int64, list []impl.Pair) []impl.Query {
	all := append(rightQueries(dims), windowOf(utmostBox(dims)), insideOf(utmostBox(dims)), pointAt(utmostBox(dims).High...))
	for k := int64(1); k <= impl.MaxNear; k++ {
		all = append(all, nearTo(k, utmostBox(dims).Low...))
	}
	for i, p := range list {
		all = append(all, windowOf(p.Rect), insideOf(p.Rect), pointAt(p.Rect.Low...), nearTo(int64(1+i%impl.MaxNear), p.Rect.High...))
		if i > 0 {
			both := impl.UnionOf(p.Rect, list[i-1].Rect).Rect
			all = append(all, windowOf(both), insideOf(both), pointAt(both.High...))
		}
	}
	return all
}

func TestAskTreeAnswersAsThePairsTell(t *testing.T) {
	eachRightTree(t, func(t *testing.T, c treeCase) {
		dims, list := c.t.Arena.Dims, sortedPairs(tourOf(c.t).pairs)
		if len(list) > impl.MaxPairs {
			return
		}
		for _, q := range askedOf(dims, list) {
			want := impl.AnswerOf(list, dims, q)
			if want.Code != impl.OK {
				t.Fatalf("AnswerOf: %v", want)
			}
			wantPairs(t, fmt.Sprint("AskTree ", q), impl.AskTree(c.t, q), want.Pairs)
		}
	})
}

// The trees have the pairs of chapter 2, by leaves that cross each other.
func TestAskTreeByHand(t *testing.T) {
	flatTree := grow(2, flatPairs(), []int{2, 2, 2}, []int{3})
	solidTree := grow(3, solidPairs(), []int{3, 2}, []int{2})
	cases := []struct {
		t    impl.Tree
		q    impl.Query
		want []int64
	}{
		{flatTree, windowOf(flat(1, 1, 3, 3)), []int64{1, 3, 9}},
		{flatTree, windowOf(flat(11, 11, 12, 12)), nil},
		{flatTree, insideOf(flat(-9, -9, 6, 6)), []int64{1, 2, 3, 5, 8}},
		{flatTree, insideOf(flat(0, 0, 4, 5)), []int64{1, 3, 5}},
		{flatTree, pointAt(4, 4), []int64{1, 2, 9}},
		{flatTree, pointAt(-11, 10), nil},
		{flatTree, nearTo(20, 2, 2), []int64{1, 3, 9, 5, 2, 8}},
		{flatTree, nearTo(2, -12, -9), []int64{9, 8}},
		{solidTree, windowOf(solid(0, 0, 5, 9, 9, 9)), []int64{7, 999}},
		{solidTree, insideOf(solid(1, 1, 2, 3, 3, 2)), []int64{20, 21}},
		{solidTree, pointAt(2, 2, 2), []int64{0, 20, 21}},
		{solidTree, nearTo(3, 2, 2, 8), []int64{999, 0, 20}},
	}
	for _, c := range cases {
		got := impl.AskTree(c.t, c.q)
		if got.Code != impl.OK || !slices.Equal(idsOf(got.Pairs), c.want) {
			t.Errorf("%v: %v, not the Ids %v", c.q, got, c.want)
		}
	}
}

// The QueryFault, by the dims of the tree, is told ahead of there being too
// many pairs, and whatever pairs there are.
func TestQueryFaultOfATree(t *testing.T) {
	for _, c := range append(queryFaults(), queryFaultsAtOnce()...) {
		if c.dims != 2 && c.dims != 3 {
			continue
		}
		trees := append(crowdedTrees(c.dims), fullTrees(c.dims)...)
		for _, tr := range append(trees, oneLevel(c.dims, 0), twoLevels(c.dims), threeLevels(c.dims)) {
			wantCode(t, c.name, impl.AskTree(tr, c.q), c.want)
		}
	}
	for dims := int64(2); dims <= 3; dims++ {
		for _, q := range rightQueries(5 - dims) {
			wantCode(t, "of other dims", impl.AskTree(threeLevels(dims), q), impl.ErrMany)
		}
	}
}
