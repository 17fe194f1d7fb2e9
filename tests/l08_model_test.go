package tests

import (
	"slices"
	"testing"

	"loop.example/g00680/impl"
)

// What chapter 8 tells is told here a second time, by the lists of a tree, by
// going down entry by entry, and by what the models of the chapters ahead
// choose and part.
const (
	didSeekInVain  = "a leaf is seen in vain"
	didSeekNothing = "no entry of a node covers the pair"
	didFit         = "a box becomes smaller"
	didStay        = "a box stays"
	didJoinAhead   = "a node is joined to one ahead of it"
	didJoinBehind  = "a node is joined to one behind it"
	didShareOne    = "entries move from the neighbour alone"
	didShareBoth   = "entries move from both"
	didShareOther  = "entries move from the node at hand alone, or none moves"
	didMendTwice   = "a mend goes up"
	didFree        = "a place is free"
	didRetire      = "a place is retired"
	didTurnRoot    = "the root is another one"
)

// dropper is a tree out of which a pair is taken, with a copy of it behind each
// step, what moved by each, and what was done.
type dropper struct {
	t     impl.Tree
	p     impl.Pair
	watch []int64
	trees []impl.Tree
	moves []impl.Moved
	did   []string
}

func (x *dropper) at(id int64) *impl.Node {
	return &x.t.Arena.Nodes[id]
}

func (x *dropper) note(level int64, did string, moved ...impl.Entry) {
	x.trees = append(x.trees, cloneTree(x.t))
	x.moves = append(x.moves, impl.Moved{Level: level, Entries: moved})
	if did != "" {
		x.did = append(x.did, did)
	}
}

func (x *dropper) mayHold(e impl.Entry) bool {
	return impl.SameRects(smallestBox([]impl.Entry{e, entryOf(0, 0, x.p.Rect)}), e.Rect)
}

// seek goes on from the last node of the way; it tells the whole way to the
// leaf, or nothing.
func (x *dropper) seek(way ...int64) []int64 {
	n := x.at(way[len(way)-1])
	if n.Level == 0 {
		return x.seekIn(n, way)
	}
	below := slices.DeleteFunc(slices.Clone(n.Entries), func(e impl.Entry) bool { return !x.mayHold(e) })
	did := ""
	if len(below) == 0 {
		did = didSeekNothing
	}
	x.note(n.Level, did)
	for _, e := range below {
		if found := x.seek(append(slices.Clone(way), e.Ref)...); found != nil {
			return found
		}
	}
	return nil
}

func (x *dropper) seekIn(leaf *impl.Node, way []int64) []int64 {
	for i, e := range leaf.Entries {
		if e.Ref == x.p.Id && impl.SameRects(e.Rect, x.p.Rect) {
			leaf.Entries = slices.Concat(leaf.Entries[:i], leaf.Entries[i+1:])
			x.note(0, "")
			return way
		}
	}
	x.note(0, didSeekInVain)
	return nil
}

func (x *dropper) retire(id int64) string {
	x.t.Arena = afterRetire(x.t.Arena, id, x.watch)
	if len(x.watch) == 0 {
		return didFree
	}
	return didRetire
}

func without(list []impl.Entry, ref int64) []impl.Entry {
	return slices.DeleteFunc(slices.Clone(list), func(e impl.Entry) bool { return e.Ref == ref })
}

func hasRef(list []impl.Entry, ref int64) bool {
	return len(without(list, ref)) < len(list)
}

func (x *dropper) mend(upper int64, hand int64) {
	level, own := x.at(hand).Level, x.at(hand).Entries
	if len(own) >= 2 {
		x.mendBox(upper, hand)
		return
	}
	others := without(x.at(upper).Entries, hand)
	near := others[modelChoice(others, smallestBox(own))].Ref
	if len(own)+len(x.at(near).Entries) > 4 {
		x.share(upper, hand, near)
		return
	}
	list := x.at(upper).Entries
	did := didJoinBehind
	if slices.IndexFunc(list, func(e impl.Entry) bool { return e.Ref == hand }) > slices.IndexFunc(list, func(e impl.Entry) bool { return e.Ref == near }) {
		did = didJoinAhead
	}
	x.at(near).Entries = slices.Concat(x.at(near).Entries, own)
	x.at(hand).Entries = nil
	x.at(upper).Entries = others
	fitEntries(x.t.Arena.Nodes, others)
	x.did = append(x.did, x.retire(hand))
	x.note(level, did, own...)
}

func (x *dropper) mendBox(upper int64, hand int64) {
	was := slices.Clone(x.at(upper).Entries)
	fitEntries(x.t.Arena.Nodes, x.at(upper).Entries)
	did := didFit
	if likeEntries(was, x.at(upper).Entries) {
		did = didStay
	}
	x.note(x.at(hand).Level, did)
}

func (x *dropper) share(upper int64, hand int64, near int64) {
	own, other := x.at(hand).Entries, x.at(near).Entries
	first, second := modelSplit(x.t.Style, slices.Concat(own, other), x.t.Arena.Dims)
	var came, went []impl.Entry
	for _, e := range first {
		if hasRef(other, e.Ref) {
			came = append(came, e)
		}
	}
	for _, e := range second {
		if hasRef(own, e.Ref) {
			went = append(went, e)
		}
	}
	did := didShareOther
	if len(came) > 0 && len(went) > 0 {
		did = didShareBoth
	} else if len(came) > 0 {
		did = didShareOne
	}
	x.at(hand).Entries, x.at(near).Entries = slices.Clone(first), slices.Clone(second)
	fitEntries(x.t.Arena.Nodes, x.at(upper).Entries)
	x.note(x.at(hand).Level, did, append(came, went...)...)
}

func modelSplit(style int64, list []impl.Entry, dims int64) ([]impl.Entry, []impl.Entry) {
	if style == impl.StyleStar {
		return modelStar(list, dims)
	}
	return modelQuad(list)
}

func (x *dropper) top() {
	root := *x.at(x.t.Root)
	if root.Level == 0 || len(root.Entries) > 1 {
		x.note(root.Level, "")
		return
	}
	old := x.t.Root
	x.t.Root = root.Entries[0].Ref
	x.t.RootNsn = x.at(x.t.Root).Nsn
	x.did = append(x.did, x.retire(old))
	x.note(root.Level, didTurnRoot)
}

// modelDrop asks for a right tree in which the pair is.
func modelDrop(t impl.Tree, p impl.Pair, watch []int64) *dropper {
	x := &dropper{t: cloneTree(t), p: p, watch: watch}
	way := x.seek(t.Root)
	for i := len(way) - 1; i > 0; i-- {
		if i < len(way)-1 && len(x.at(way[i]).Entries) < 2 {
			x.did = append(x.did, didMendTwice)
		}
		x.mend(way[i-1], way[i])
	}
	x.top()
	return x
}

func (x *dropper) retires() bool {
	return slices.Contains(x.did, didFree) || slices.Contains(x.did, didRetire)
}

func isIn(list []impl.Pair, p impl.Pair) bool {
	return slices.ContainsFunc(list, func(other impl.Pair) bool { return other.Id == p.Id && impl.SameRects(other.Rect, p.Rect) })
}

func modelWatchCode(watch []int64) int64 {
	if len(watch) > 4 {
		return impl.ErrMany
	}
	if slices.ContainsFunc(watch, func(c int64) bool { return c < 0 || c > 3 }) {
		return impl.ErrRange
	}
	if !slices.IsSorted(watch) || len(slices.Compact(slices.Clone(watch))) < len(watch) {
		return impl.ErrForm
	}
	return impl.OK
}

// modelDropCode tells the code but for those of watch.
func modelDropCode(t impl.Tree, p impl.Pair) int64 {
	if code := modelTreeFault(t); code != impl.OK {
		return code
	}
	if p.Id < 0 || p.Id > 999 {
		return impl.ErrRange
	}
	if code := impl.RectFault(p.Rect, t.Arena.Dims); code != impl.OK {
		return code
	}
	if !isIn(tourOf(t).pairs, p) {
		return impl.ErrNone
	}
	return impl.OK
}

func wantDropCode(t *testing.T, what string, tr impl.Tree, p impl.Pair, watch []int64, want int64) {
	t.Helper()
	if got := impl.DropTrace(tr, p, watch); got.Code != want || len(got.Trees) != 0 || len(got.Moves) != 0 {
		t.Fatalf("%s: DropTrace %v, not the code %d alone", what, got, want)
	}
}

// sayNotDropped wants this code, and nothing else, whoever watches.
func sayNotDropped(t *testing.T, what string, tr impl.Tree, p impl.Pair, want int64) {
	t.Helper()
	for _, watch := range [][]int64{nil, {1, 3}, {4, 3}} {
		wantDropCode(t, what, tr, p, watch, want)
	}
	wantTreeCode(t, what+": DropFrom", impl.DropFrom(tr, p), want)
}

func likeMoved(a impl.Moved, b impl.Moved) bool {
	return a.Level == b.Level && likeEntries(a.Entries, b.Entries)
}

// sayDropTrace wants just these trees and moves, in order.
func sayDropTrace(t *testing.T, what string, got impl.DropResult, trees []impl.Tree, moves []impl.Moved) {
	t.Helper()
	if len(got.Moves) != len(moves) {
		t.Fatalf("%s: the code %d and %d moves, not %d", what, got.Code, len(got.Moves), len(moves))
	}
	sayTrees(t, what, impl.TraceResult{Code: got.Code, Trees: got.Trees}, trees)
	for i, m := range moves {
		if !likeMoved(got.Moves[i], m) {
			t.Fatalf("%s: by the step %d moved %v, not %v", what, i, got.Moves[i], m)
		}
	}
}

// sayDrop wants just what the model tells, and, where the pair is taken out,
// what promise 9 tells of the tree. It tells what was done.
func sayDrop(t *testing.T, what string, tr impl.Tree, p impl.Pair, watch []int64) (int64, *dropper) {
	t.Helper()
	if want := modelDropCode(tr, p); want != impl.OK {
		sayNotDropped(t, what, tr, p, want)
		return want, &dropper{}
	}
	sayTreeIs(t, what, impl.DropFrom(tr, p), modelDrop(tr, p, nil).t)
	if want := modelWatchCode(watch); want != impl.OK {
		wantDropCode(t, what, tr, p, watch, want)
		return want, &dropper{}
	}
	x := modelDrop(tr, p, watch)
	sayDropTrace(t, what, impl.DropTrace(tr, p, watch), x.trees, x.moves)
	sayDroppedOut(t, what, tr, p, x.t)
	return impl.OK, x
}

// sayDroppedOut is promise 9.
func sayDroppedOut(t *testing.T, what string, was impl.Tree, p impl.Pair, now impl.Tree) {
	t.Helper()
	sayRight(t, what, now)
	if why := tourOf(now).why; len(why) > 0 {
		t.Fatalf("%s: %v of\n%s", what, why, told(now))
	}
	want := slices.DeleteFunc(sortedPairs(tourOf(was).pairs), func(other impl.Pair) bool { return other.Id == p.Id })
	if len(want) > impl.MaxPairs {
		wantCode(t, what+": PairsIn", impl.PairsIn(now), impl.ErrMany)
		return
	}
	wantPairs(t, what+": PairsIn", impl.PairsIn(now), want)
	wantPairs(t, what+": AskTree", impl.AskTree(now, insideOf(p.Rect)), impl.AnswerOf(want, now.Arena.Dims, insideOf(p.Rect)).Pairs)
	sayNotDropped(t, what+", once more", now, p, impl.ErrNone)
}
