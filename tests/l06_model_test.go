package tests

import (
	"slices"
	"testing"

	"loop.example/g00680/impl"
)

// What chapter 6 tells of a tree is told here a second time, by going from
// node to node and keeping each thing that is not so.
const (
	whyRoot    = "the root is not in use"
	whyRootNsn = "the root's Nsn is not RootNsn"
	whyCounter = "a Nsn is greater than Counter"
	whyMost    = "too many entries"
	whyLeast   = "too few entries"
	whyPlace   = "an entry tells of no place"
	whyFree    = "an entry tells of a free place"
	whyRetired = "an entry tells of a retired place"
	whyMet     = "an entry tells of a node that was met ahead"
	whyLevel   = "a Level is not one less"
	whyNsn     = "a Nsn is not the entry's"
	whyBox     = "a box is not the entry's Rect"
	whyTwice   = "two entries of leaves have the same Ref"
	whyUnmet   = "a place in use is not met"
)

// tour is a walk through a tree, with or without a fault.
type tour struct {
	t     impl.Tree
	met   []int64
	pairs []impl.Pair
	why   []string
}

func (x *tour) want(so bool, why string) bool {
	if !so && !slices.Contains(x.why, why) {
		x.why = append(x.why, why)
	}
	return so
}

func (x *tour) node(id int64) {
	n := x.t.Arena.Nodes[id]
	x.met = append(x.met, id)
	x.want(len(n.Entries) <= 4, whyMost)
	x.want(len(n.Entries) >= 2 || id == x.t.Root && n.Level == 0, whyLeast)
	for _, e := range n.Entries {
		if n.Level > 0 {
			x.way(n, e)
			continue
		}
		x.want(!slices.Contains(idsOf(x.pairs), e.Ref), whyTwice)
		x.pairs = append(x.pairs, pairOf(e.Ref, e.Rect))
	}
}

func (x *tour) way(n impl.Node, e impl.Entry) {
	a := x.t.Arena
	if !x.want(e.Ref < int64(len(a.Nodes)), whyPlace) || !x.want(!isFree(a, e.Ref), whyFree) {
		return
	}
	if !x.want(!isRetired(a, e.Ref), whyRetired) || !x.want(!slices.Contains(x.met, e.Ref), whyMet) {
		return
	}
	below := a.Nodes[e.Ref]
	x.want(below.Level == n.Level-1, whyLevel)
	x.want(below.Nsn == e.Nsn, whyNsn)
	x.want(len(below.Entries) > 0 && impl.SameRects(smallestBox(below.Entries), e.Rect), whyBox)
	x.node(e.Ref)
}

// tourOf asks for a tree whose arena has no fault, and whose root is a place.
func tourOf(t impl.Tree) tour {
	a, x := t.Arena, tour{t: t}
	x.want(!isFree(a, t.Root) && !isRetired(a, t.Root), whyRoot)
	x.want(a.Nodes[t.Root].Nsn == t.RootNsn, whyRootNsn)
	for _, n := range a.Nodes {
		x.want(n.Nsn <= t.Counter, whyCounter)
	}
	x.node(t.Root)
	for id := range int64(len(a.Nodes)) {
		x.want(isFree(a, id) || isRetired(a, id) || slices.Contains(x.met, id), whyUnmet)
	}
	slices.Sort(x.why)
	return x
}

func modelTreeFault(t impl.Tree) int64 {
	if code := impl.ArenaFault(t.Arena); code != impl.OK {
		return code
	}
	if t.Style != 0 && t.Style != 1 || t.Root < 0 || t.Root >= int64(len(t.Arena.Nodes)) {
		return impl.ErrRange
	}
	if t.RootNsn < 0 || t.RootNsn > 100000 || t.Counter < 0 || t.Counter > 100000 {
		return impl.ErrRange
	}
	if len(tourOf(t).why) > 0 {
		return impl.ErrState
	}
	return impl.OK
}

func sortedPairs(list []impl.Pair) []impl.Pair {
	return slices.SortedFunc(slices.Values(list), func(a impl.Pair, b impl.Pair) int { return int(a.Id - b.Id) })
}

// sayAsModel holds what is told of a tree against the model, and tells whether
// it is right.
func sayAsModel(t *testing.T, what string, tr impl.Tree) bool {
	t.Helper()
	want := modelTreeFault(tr)
	if got := impl.TreeFault(tr); got != want {
		t.Fatalf("%s: TreeFault %d, not %d, of %v", what, got, want, tr)
	}
	if want != impl.OK {
		return false
	}
	x := tourOf(tr)
	if got := impl.ReachOf(tr); got.Code != impl.OK || !slices.Equal(got.List, x.met) {
		t.Fatalf("%s: ReachOf %v, not %v, of %v", what, got, x.met, tr)
	}
	level := tr.Arena.Nodes[tr.Root].Level
	sameInt(t, what+": HeightOf", impl.HeightOf(tr), level+1)
	sameInt(t, what+": NeedOf", impl.NeedOf(tr), level+2)
	if len(x.pairs) > impl.MaxPairs {
		wantCode(t, what+": PairsIn", impl.PairsIn(tr), impl.ErrMany)
	} else {
		wantPairs(t, what+": PairsIn", impl.PairsIn(tr), sortedPairs(x.pairs))
	}
	return true
}

// numbersToTurn are all numbers of a tree, to be turned.
func numbersToTurn(t *impl.Tree) []*int64 {
	all := []*int64{&t.Style, &t.Root, &t.RootNsn, &t.Counter, &t.Arena.Dims}
	add := func(list []int64) {
		for i := range list {
			all = append(all, &list[i])
		}
	}
	for i := range t.Arena.Nodes {
		n := &t.Arena.Nodes[i]
		all = append(all, &n.Level, &n.Nsn, &n.Right)
		for k := range n.Entries {
			e := &n.Entries[k]
			all = append(all, &e.Ref, &e.Nsn)
			add(e.Rect.Low)
			add(e.Rect.High)
		}
	}
	add(t.Arena.Free)
	for i := range t.Arena.Retired {
		all = append(all, &t.Arena.Retired[i].Id)
		add(t.Arena.Retired[i].Watch)
	}
	return all
}

// Each number of a tree, alone, with what is told of it below and above fitted
// to it and not.
func TestEachNumberOfATree(t *testing.T) {
	right, wrong := 0, 0
	ask := func(what string, tr impl.Tree) {
		if sayAsModel(t, what, tr) {
			right++
		} else {
			wrong++
		}
	}
	for dims := int64(2); dims <= 3; dims++ {
		for _, tr := range []impl.Tree{oneLevel(dims, 0), oneLevel(dims, 3), twoLevels(dims), threeLevels(dims)} {
			for i, p := range numbersToTurn(&tr) {
				for _, n := range []int64{*p - 1, *p + 1, -1, 0, 1, 2, 5, 8, 9, 12, 13, 39, 40, 999, 1000, 100000, 100001} {
					turned := cloneTree(tr)
					*numbersToTurn(&turned)[i] = n
					ask("turned", turned)
					ask("fitted", fitted(turned))
				}
			}
		}
	}
	if right < 1000 || wrong < 10000 {
		t.Errorf("%d right trees and %d others", right, wrong)
	}
}

// lay tells how a place of a small tree is told: free, or a node, in use or
// retired.
type lay struct {
	n       impl.Node
	free    bool
	retired bool
}

func laysAt(id int64) []lay {
	leaf := leafWith(2, id, impl.NoNode, 10*id, 10*id+1)
	if id == 3 {
		leaf = leafWith(2, id, 0, 30, 1)
	}
	lays := []lay{{n: vacant(), free: true}, {n: leaf}, {n: leaf, retired: true}}
	for _, refs := range [][]int64{{0, 1}, {1, 2}, {2, 3}, {0, 3}, {1, 3}, {1, 2, 3}, {2}} {
		lays = append(lays, lay{n: innerWith(2, 1, id, 1, refs...)})
	}
	return append(lays, lay{n: innerWith(2, 2, id, 2, 2, 1)}, lay{n: innerWith(2, 2, id, 2, 3, 2, 0)})
}

func smallTree(root int64, lays ...lay) impl.Tree {
	t := impl.Tree{Root: root, RootNsn: root, Counter: 3, Arena: impl.Arena{Dims: 2}}
	for i, l := range lays {
		t.Arena.Nodes = append(t.Arena.Nodes, l.n)
		if l.free {
			t.Arena.Free = append(t.Arena.Free, int64(i))
		}
		if l.retired {
			t.Arena.Retired = append(t.Arena.Retired, retiredAt(int64(i), 2))
		}
	}
	if lays[root].free {
		t.RootNsn = 0
	}
	return fitted(t)
}

// All ways to lay four places of which each is one of some: ways that cross,
// that go round, and that go nowhere are among them.
func TestSmallTrees(t *testing.T) {
	right := 0
	for _, a := range laysAt(0) {
		for _, b := range laysAt(1) {
			for _, c := range laysAt(2) {
				for _, d := range laysAt(3) {
					for root := range int64(4) {
						if sayAsModel(t, "small", smallTree(root, a, b, c, d)) {
							right++
						}
					}
				}
			}
		}
	}
	if right < 20 {
		t.Errorf("%d right trees", right)
	}
}
