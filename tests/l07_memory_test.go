package tests

import (
	"reflect"
	"slices"
	"testing"

	"loop.example/g00680/impl"
)

func (x putArgs) spared() putArgs {
	x.t.Arena, x.p.Rect = spareArena(x.t.Arena), spareBox(x.p.Rect)
	return x
}

func (x putArgs) lists() [][]int64 {
	return append(arenaLists(x.t.Arena), x.p.Rect.Low, x.p.Rect.High)
}

func (x putArgs) numbers() []int64 {
	return append(arenaNumbers(x.t.Arena), x.t.Style, x.t.Root, x.t.RootNsn, x.t.Counter, x.p.Id)
}

func (x putArgs) scribble() {
	scribbleArena(x.t.Arena)
	fill(x.p.Rect.Low, 48)
	fill(x.p.Rect.High, 49)
}

func (x putArgs) answers() []any {
	return []any{impl.PutTrace(x.t, x.p), impl.PutInto(x.t, x.p)}
}

// trees are all trees of the answers.
func (x putArgs) trees() []impl.Tree {
	trace := impl.PutTrace(x.t, x.p)
	return append(trace.Trees, impl.PutInto(x.t, x.p).Tree)
}

// rightPuts part no node, a leaf, a leaf and a root, and more.
func rightPuts() []putArgs {
	var all []putArgs
	for dims := int64(2); dims <= 3; dims++ {
		for style := range int64(2) {
			trees := append(startTrees(dims, style), grown(dims, times(12, 4), times(3, 4), []int{3}), grown(dims, times(8, 4), times(2, 4), []int{2}))
			for _, tr := range append(trees, roomier(grown(dims, times(4, 4), []int{4}), 0), almostFull(dims)[0]) {
				tr.Style = style
				for i, p := range manyPairs(dims, 6) {
					all = append(all, putArgs{tr, pairOf(newIds(tr)[i*50], p.Rect)})
				}
			}
		}
	}
	return all
}

func wrongPuts() []putArgs {
	var all []putArgs
	for _, c := range append(putFaults(), putFaultsAtOnce()...) {
		all = append(all, c.x)
	}
	for _, tr := range sameTreesToAsk() {
		all = append(all, putArgs{tr, pairOf(500, rightBox(2))})
	}
	for _, c := range treeFaults() {
		all = append(all, putArgs{c.t, pairOf(500, rightBox(2))})
	}
	return all
}

func TestRightPutsPart(t *testing.T) {
	parted := map[int64]int{}
	for _, x := range rightPuts() {
		got := impl.PutInto(x.t, x.p)
		if got.Code != impl.OK {
			t.Fatalf("the code %d of %v", got.Code, x)
		}
		parted[got.Tree.Counter-x.t.Counter]++
	}
	for count := range int64(4) {
		if parted[count] < 4 {
			t.Errorf("seldom %d nodes are parted: %v", count, parted)
		}
	}
}

func TestPutArgumentsStay(t *testing.T) {
	for _, x := range append(rightPuts(), wrongPuts()...) {
		s := x.spared()
		lists, numbers := pictureOf(s.lists()), s.numbers()
		s.answers()
		if !samePicture(pictureOf(s.lists()), lists) || !slices.Equal(s.numbers(), numbers) {
			t.Fatalf("an argument was changed: %v", x)
		}
	}
}

func TestPutAnswersHangOnArgumentsAlone(t *testing.T) {
	for _, x := range append(rightPuts(), wrongPuts()...) {
		first := x.answers()
		for range 3 {
			if again := x.spared().answers(); !reflect.DeepEqual(again, first) {
				t.Fatalf("%v: first %v, then %v", x, first, again)
			}
		}
	}
}

// Empty lists in place of nil change no answer.
func TestPutWithEmptyLists(t *testing.T) {
	for _, none := range append(rightPuts(), wrongPuts()...) {
		empty := putArgs{cloneTree(none.t), clonePair(none.p)}
		a, r := &empty.t.Arena, &empty.p.Rect
		for i := range a.Nodes {
			a.Nodes[i].Entries = append([]impl.Entry{}, a.Nodes[i].Entries...)
		}
		a.Nodes = append([]impl.Node{}, a.Nodes...)
		a.Free = append([]int64{}, a.Free...)
		a.Retired = append([]impl.Retired{}, a.Retired...)
		r.Low, r.High = append([]int64{}, r.Low...), append([]int64{}, r.High...)
		if !reflect.DeepEqual(empty.answers(), none.answers()) {
			t.Fatalf("%v, not %v", empty.answers(), none.answers())
		}
	}
}

func TestPutAnswersShareNothingWithArguments(t *testing.T) {
	for _, x := range rightPuts() {
		s := x.spared()
		lists, numbers := pictureOf(s.lists()), s.numbers()
		for _, tr := range s.trees() {
			scribbleArena(tr.Arena)
		}
		if !samePicture(pictureOf(s.lists()), lists) || !slices.Equal(s.numbers(), numbers) {
			t.Fatalf("who writes an answer writes an argument: %v", x)
		}
		answers, want := s.answers(), x.answers()
		s.scribble()
		if !reflect.DeepEqual(answers, want) {
			t.Fatalf("who writes an argument writes an answer: %v", x)
		}
	}
}

func TestListsOfPutAnswersShareNothing(t *testing.T) {
	for _, x := range rightPuts() {
		var lists [][]int64
		var nodes []impl.Node
		for _, tr := range append(x.trees(), x.trees()...) {
			lists = append(lists, arenaLists(tr.Arena)...)
			nodes = append(nodes, tr.Arena.Nodes...)
		}
		sayApart(t, lists)
		sayEntriesApart(t, nodes)
	}
}

// Who writes one tree of an answer, with its lists of places, writes no other
// one.
func TestTreesOfPutAnswersShareNothing(t *testing.T) {
	for _, x := range rightPuts() {
		trees := x.trees()
		var was []impl.Tree
		for _, tr := range trees {
			was = append(was, cloneTree(tr))
		}
		for i, tr := range trees {
			if !likeTree(tr, was[i]) {
				t.Fatalf("the tree %d shares memory with one ahead of it: %v", i, x)
			}
			scribbleArena(tr.Arena)
		}
		trees = x.trees()
		for i := len(trees) - 1; i >= 0; i-- {
			if !likeTree(trees[i], was[i]) {
				t.Fatalf("the tree %d shares memory with one behind it: %v", i, x)
			}
			scribbleArena(trees[i].Arena)
		}
	}
}

// One list in all boxes of the arguments is no reason to share it in the
// answer.
func TestOneListInAllOfAPut(t *testing.T) {
	p := withSpare([]int64{1, 2})
	r := impl.Rect{Low: p, High: p}
	var list []impl.Entry
	for id := range int64(4) {
		list = append(list, entryOf(id, 0, r))
	}
	tr := impl.Tree{Arena: impl.Arena{Dims: 2, Nodes: []impl.Node{
		leafOf(list...), vacant(), vacant(), leafOf(list...),
	}, Free: p, Retired: []impl.Retired{{Id: 3, Watch: p}}}, RootNsn: 4, Counter: 4}
	was := slices.Clone(whole(p))
	for style := range int64(2) {
		tr.Style = style
		x := putArgs{tr, pairOf(7, r)}
		trees := x.trees()
		if len(trees) != 4 {
			t.Fatalf("not three trees and the last one: %v", x.answers())
		}
		var lists [][]int64
		for _, tr := range trees {
			lists = append(lists, arenaLists(tr.Arena)...)
		}
		sayApart(t, lists)
		if !slices.Equal(whole(p), was) {
			t.Fatalf("who writes an answer writes the argument: %v", p)
		}
	}
}
