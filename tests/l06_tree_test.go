package tests

import (
	"fmt"
	"math"
	"slices"
	"testing"

	"loop.example/g00680/impl"
)

// treeCase is a right tree, with the places of its nodes in the order of the
// walk.
type treeCase struct {
	name   string
	t      impl.Tree
	levels int64
	reach  []int64
}

func rightTrees(dims int64) []treeCase {
	list := []treeCase{
		{"a new tree", impl.NewTree(dims, impl.StyleQuad, 4).Tree, 1, []int64{0}},
		{"a new tree with all places", impl.NewTree(dims, impl.StyleStar, 40).Tree, 1, []int64{0}},
		{"two levels", twoLevels(dims), 2, []int64{4, 8, 0, 2}},
		{"three levels", threeLevels(dims), 3, []int64{10, 3, 16, 0, 7, 14, 5, 1}},
		{"two levels, as few as may be", grown(dims, []int{2, 2}, []int{2}), 2, []int64{17, 3, 10}},
		{"two levels, as many as may be", grown(dims, times(4, 4), []int{4}), 2, []int64{31, 3, 10, 17, 24}},
		{"three levels, as few as may be", grown(dims, times(4, 2), []int{2, 2}, []int{2}), 3, []int64{5, 31, 3, 10, 38, 17, 24}},
		{"three levels, as many as may be", grown(dims, times(16, 4), times(4, 4), []int{4}), 3, nil},
		{"four levels", grown(dims, times(9, 3), []int{2, 2, 3, 2}, []int{2, 2}, []int{2}), 4, nil},
		{"five levels", grown(dims, times(16, 2), times(8, 2), times(4, 2), []int{2, 2}, []int{2}), 5, nil},
		{"as many nodes as may be", grown(dims, times(29, 4), []int{4, 4, 4, 4, 4, 4, 3, 2}, []int{4, 4}, []int{2}), 4, nil},
	}
	for count := range 5 {
		list = append(list, treeCase{fmt.Sprintf("a leaf with %d entries", count), oneLevel(dims, count), 1, []int64{2}})
	}
	return list
}

// eachRightTree goes through right trees in two and in three dimensions.
func eachRightTree(t *testing.T, ask func(t *testing.T, c treeCase)) {
	t.Helper()
	for dims := int64(2); dims <= 3; dims++ {
		for _, c := range rightTrees(dims) {
			t.Run(fmt.Sprintf("%d dims, %s", dims, c.name), func(t *testing.T) { ask(t, c) })
		}
	}
}

// Promise 7: of a right tree the numbers fit.
func TestRightTrees(t *testing.T) {
	eachRightTree(t, func(t *testing.T, c treeCase) {
		if !sayAsModel(t, c.name, c.t) {
			t.Fatalf("a fault: %d, %v", impl.TreeFault(c.t), tourOf(c.t).why)
		}
		sameInt(t, "HeightOf", impl.HeightOf(c.t), c.levels)
		sameInt(t, "NeedOf", impl.NeedOf(c.t), c.levels+1)
		got := impl.ReachOf(c.t)
		if got.Code != impl.OK || c.reach != nil && !slices.Equal(got.List, c.reach) {
			t.Errorf("ReachOf: %v, not %v", got, c.reach)
		}
	})
}

// Which places the nodes have does not matter, but for how they are told.
func TestReachOfHangsOnTheEntries(t *testing.T) {
	for dims := int64(2); dims <= 3; dims++ {
		tr := threeLevels(dims)
		tr.Arena.Nodes[10].Entries = reversed(tr.Arena.Nodes[10].Entries)
		tr.Arena.Nodes[3].Entries = reversed(tr.Arena.Nodes[3].Entries)
		if got := impl.ReachOf(tr); got.Code != impl.OK || !slices.Equal(got.List, []int64{10, 14, 5, 1, 3, 7, 0, 16}) {
			t.Errorf("the other way round: %v", got)
		}
		for first := range int64(17) {
			for second := range first {
				if isFree(tr.Arena, first) || isFree(tr.Arena, second) {
					continue
				}
				sayMoved(t, tr, first, second)
			}
		}
	}
}

func reversed(list []impl.Entry) []impl.Entry {
	list = slices.Clone(list)
	slices.Reverse(list)
	return list
}

// sayMoved wants the nodes of two places to be told in the same order when they
// change places.
func sayMoved(t *testing.T, tr impl.Tree, first int64, second int64) {
	t.Helper()
	moved := func(id int64) int64 {
		switch id {
		case first:
			return second
		case second:
			return first
		}
		return id
	}
	turned := turnedTree(tr, func(x *impl.Tree) {
		x.Root = moved(x.Root)
		x.Arena.Nodes[first], x.Arena.Nodes[second] = x.Arena.Nodes[second], x.Arena.Nodes[first]
		for _, n := range x.Arena.Nodes {
			for k := range n.Entries {
				if n.Level > 0 {
					n.Entries[k].Ref = moved(n.Entries[k].Ref)
				}
			}
		}
		for i, r := range x.Arena.Retired {
			x.Arena.Retired[i].Id = moved(r.Id)
		}
	})
	var want []int64
	for _, id := range impl.ReachOf(tr).List {
		want = append(want, moved(id))
	}
	if got := impl.ReachOf(turned); got.Code != impl.OK || !slices.Equal(got.List, want) {
		t.Errorf("%d and %d moved: %v, not %v", first, second, got, want)
	}
}

func wantTreeCode(t *testing.T, what string, got impl.TreeResult, want int64) {
	t.Helper()
	if got.Code != want || !likeTree(got.Tree, impl.Tree{}) {
		t.Errorf("%s: %v, not the code %d alone", what, got, want)
	}
}

// Promise 7: a new tree is a right one without pairs.
func TestNewTree(t *testing.T) {
	for dims := int64(2); dims <= 3; dims++ {
		for style := range int64(2) {
			for room := int64(4); room <= 40; room++ {
				what := fmt.Sprintf("NewTree %d %d %d", dims, style, room)
				got := impl.NewTree(dims, style, room)
				want := impl.Tree{Style: style, Arena: freshArena(dims, room)}
				want.Arena.Free = want.Arena.Free[1:]
				if got.Code != impl.OK || !likeTree(got.Tree, want) {
					t.Errorf("%s: %v, not %v", what, got, want)
				}
				sayNew(t, what, got.Tree)
			}
		}
	}
}

func sayNew(t *testing.T, what string, tr impl.Tree) {
	t.Helper()
	if got := impl.TreeFault(tr); got != impl.OK {
		t.Errorf("%s: TreeFault %d", what, got)
	}
	sameInt(t, what+": HeightOf", impl.HeightOf(tr), 1)
	sameInt(t, what+": NeedOf", impl.NeedOf(tr), 2)
	if got := impl.ReachOf(tr); got.Code != impl.OK || !slices.Equal(got.List, []int64{0}) {
		t.Errorf("%s: ReachOf %v", what, got)
	}
	wantPairs(t, what+": PairsIn", impl.PairsIn(tr), nil)
	for _, q := range rightQueries(tr.Arena.Dims) {
		wantPairs(t, what+": AskTree", impl.AskTree(tr, q), nil)
	}
}

// The root of a new tree is a node like any other one: what is written to it is
// in the tree, and the next place that is taken is another one.
func TestNewTreeIsFilled(t *testing.T) {
	for dims := int64(2); dims <= 3; dims++ {
		tr := impl.NewTree(dims, impl.StyleStar, 7).Tree
		n := vacant()
		for i, p := range manyPairs(dims, 4) {
			n = impl.WithEntry(n, dims, entryOf(p.Id, 0, p.Rect)).Node
			tr.Arena = impl.WriteNode(tr.Arena, tr.Root, n).Arena
			wantPairs(t, "PairsIn", impl.PairsIn(tr), sortedPairs(manyPairs(dims, i+1)))
		}
		if got := impl.TakeNode(tr.Arena, vacant()); got.Code != impl.OK || got.Id != 1 {
			t.Errorf("TakeNode: %v", got)
		}
	}
}

func TestNewTreeThatCannotBe(t *testing.T) {
	styles := []int64{-1, 2, 3, 1 << 32, 1<<32 + 1, math.MinInt64, math.MaxInt64}
	dimsThatAreNone := []int64{1, 4, 0, -1, -2, 1<<32 + 2, math.MinInt64, math.MaxInt64}
	rooms := []int64{3, 41, 0, -1, -4, 1, 2, 42, 1000, 1<<32 + 4, math.MinInt64, math.MaxInt64}
	ask := func(dims int64, style int64, room int64, want int64) {
		t.Helper()
		wantTreeCode(t, fmt.Sprintf("NewTree %d %d %d", dims, style, room), impl.NewTree(dims, style, room), want)
	}
	for _, style := range styles {
		for _, room := range append(rooms, 4, 40) {
			for _, dims := range append(dimsThatAreNone, 2, 3) {
				ask(dims, style, room, impl.ErrRange)
			}
		}
	}
	for style := range int64(2) {
		for _, room := range rooms {
			ask(2, style, room, impl.ErrMany)
			ask(3, style, room, impl.ErrMany)
		}
		for _, dims := range dimsThatAreNone {
			for _, room := range append(rooms, 4, 40) {
				ask(dims, style, room, impl.ErrRange)
			}
		}
	}
}

// What a tree may have at its bounds, and what no node of it needs.
func TestTreesAtTheBounds(t *testing.T) {
	for dims := int64(2); dims <= 3; dims++ {
		for _, tr := range []impl.Tree{oneLevel(dims, 0), oneLevel(dims, 1), twoLevels(dims), threeLevels(dims)} {
			level := tr.Arena.Nodes[tr.Root].Level
			for what, turn := range map[string]func(x *impl.Tree){
				"the greatest Counter": func(x *impl.Tree) { x.Counter = impl.MaxNsn },
				"the greatest Nsn": func(x *impl.Tree) {
					x.Counter, x.RootNsn, x.Arena.Nodes[x.Root].Nsn = impl.MaxNsn, impl.MaxNsn, impl.MaxNsn
				},
				"all Nsn 0":       allZero,
				"the other Style": func(x *impl.Tree) { x.Style = 1 - x.Style },
				"each Right at its bound": func(x *impl.Tree) {
					for i := range x.Arena.Nodes {
						if !isFree(x.Arena, int64(i)) {
							x.Arena.Nodes[i].Right = impl.MaxNodes - 1
						}
					}
				},
				"nothing retired": func(x *impl.Tree) {
					for _, r := range x.Arena.Retired {
						x.Arena = afterFree(x.Arena, r.Id)
					}
					x.Arena.Retired = nil
				},
			} {
				turned := fitted(turnedTree(tr, turn))
				if got := impl.TreeFault(turned); got != impl.OK {
					t.Errorf("%d levels, %s: %d", level+1, what, got)
				}
				sameInt(t, what, impl.HeightOf(turned), level+1)
			}
		}
	}
}

// allZero leaves no number of any node.
func allZero(t *impl.Tree) {
	t.RootNsn, t.Counter = 0, 0
	for i := range t.Arena.Nodes {
		t.Arena.Nodes[i].Nsn = 0
	}
}
