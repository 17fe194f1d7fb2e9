package tests

import (
	"reflect"
	"slices"
	"testing"

	"loop.example/g00680/impl"
)

// treeArgs are the arguments of one call of each function of chapter 6; what
// NewTree is asked for are the numbers of the tree.
type treeArgs struct {
	t impl.Tree
	q impl.Query
}

func (x treeArgs) spared() treeArgs {
	x.t.Arena, x.q = spareArena(x.t.Arena), spareQuery(x.q)
	return x
}

func (x treeArgs) lists() [][]int64 {
	return append(arenaLists(x.t.Arena), x.q.Rect.Low, x.q.Rect.High, x.q.Point)
}

func (x treeArgs) numbers() []int64 {
	return append(arenaNumbers(x.t.Arena), x.t.Style, x.t.Root, x.t.RootNsn, x.t.Counter)
}

func (x treeArgs) scribble() {
	scribbleArena(x.t.Arena)
	for _, list := range [][]int64{x.q.Rect.Low, x.q.Rect.High, x.q.Point} {
		fill(list, 49)
	}
}

func (x treeArgs) fresh() impl.TreeResult {
	return impl.NewTree(x.t.Arena.Dims, x.t.Style, int64(len(x.t.Arena.Nodes)))
}

func (x treeArgs) pairAnswers() []impl.PairsResult {
	return []impl.PairsResult{impl.PairsIn(x.t), impl.AskTree(x.t, x.q)}
}

func (x treeArgs) answers() []any {
	other := impl.Tree{Style: x.t.Style, Root: x.t.Root}
	return []any{
		impl.TreeFault(x.t), x.fresh(), impl.HeightOf(x.t), impl.ReachOf(x.t), x.pairAnswers(), impl.NeedOf(x.t),
		impl.SameTrees(x.t, x.t), impl.SameTrees(x.t, other), impl.SameTrees(other, x.t),
	}
}

func rightTreeArgs() []treeArgs {
	var all []treeArgs
	for dims := int64(2); dims <= 3; dims++ {
		queries := append(rightQueries(dims), windowOf(utmostBox(dims)), insideOf(utmostBox(dims)))
		for _, c := range rightTrees(dims) {
			for _, q := range queries {
				all = append(all, treeArgs{c.t, q})
			}
		}
	}
	return all
}

func wrongTreeArgs() []treeArgs {
	var all []treeArgs
	for _, tr := range sameTreesToAsk() {
		all = append(all, treeArgs{tr, nearTo(3, 0, 0)})
	}
	for _, c := range treeFaults() {
		all = append(all, treeArgs{c.t, windowOf(utmostBox(2))})
	}
	for dims := int64(2); dims <= 3; dims++ {
		for _, c := range stateCases(dims) {
			all = append(all, treeArgs{c.t, windowOf(utmostBox(dims))})
		}
		for _, tr := range crowdedTrees(dims) {
			all = append(all, treeArgs{tr, windowOf(utmostBox(dims))})
		}
	}
	for _, c := range queryFaults() {
		all = append(all, treeArgs{threeLevels(2), c.q}, treeArgs{threeLevels(3), c.q})
	}
	return all
}

func TestTreeArgumentsStay(t *testing.T) {
	for _, x := range append(rightTreeArgs(), wrongTreeArgs()...) {
		s := x.spared()
		lists, numbers := pictureOf(s.lists()), s.numbers()
		s.answers()
		if !samePicture(pictureOf(s.lists()), lists) || !slices.Equal(s.numbers(), numbers) {
			t.Fatalf("an argument was changed: %v", x)
		}
	}
}

func TestTreeAnswersHangOnArgumentsAlone(t *testing.T) {
	for _, x := range append(rightTreeArgs(), wrongTreeArgs()...) {
		first := x.answers()
		for range 3 {
			if again := x.spared().answers(); !reflect.DeepEqual(again, first) {
				t.Fatalf("%v: first %v, then %v", x, first, again)
			}
		}
	}
}

// Empty lists in place of nil change no answer.
func TestTreeWithEmptyLists(t *testing.T) {
	for _, none := range append(rightTreeArgs(), wrongTreeArgs()...) {
		empty := treeArgs{cloneTree(none.t), none.q}
		a := &empty.t.Arena
		for i := range a.Nodes {
			a.Nodes[i].Entries = append([]impl.Entry{}, a.Nodes[i].Entries...)
		}
		a.Nodes = append([]impl.Node{}, a.Nodes...)
		a.Free = append([]int64{}, a.Free...)
		a.Retired = append([]impl.Retired{}, a.Retired...)
		empty.q.Point = append([]int64{}, empty.q.Point...)
		if !reflect.DeepEqual(empty.answers(), none.answers()) {
			t.Fatalf("%v, not %v", empty.answers(), none.answers())
		}
	}
}

func TestTreeAnswersShareNothingWithArguments(t *testing.T) {
	for _, x := range rightTreeArgs() {
		s := x.spared()
		lists, numbers := pictureOf(s.lists()), s.numbers()
		for _, answer := range s.pairAnswers() {
			scribble(answer.Pairs)
		}
		fill(impl.ReachOf(s.t).List, 43)
		scribbleArena(s.fresh().Tree.Arena)
		if !samePicture(pictureOf(s.lists()), lists) || !slices.Equal(s.numbers(), numbers) {
			t.Fatalf("who writes an answer writes an argument: %v", x)
		}
		answers, want := s.pairAnswers(), x.pairAnswers()
		reach, wantReach := impl.ReachOf(s.t), impl.ReachOf(x.t)
		s.scribble()
		if !reflect.DeepEqual(answers, want) || !reflect.DeepEqual(reach, wantReach) {
			t.Fatalf("who writes an argument writes an answer: %v", x)
		}
	}
}

func TestListsOfTreeAnswersShareNothing(t *testing.T) {
	for _, x := range rightTreeArgs() {
		fresh, again := x.fresh().Tree.Arena, x.fresh().Tree.Arena
		lists := append(arenaLists(fresh), arenaLists(again)...)
		lists = append(lists, impl.ReachOf(x.t).List, impl.ReachOf(x.t).List)
		for _, answer := range append(x.pairAnswers(), x.pairAnswers()...) {
			lists = append(lists, listsOf(answer.Pairs)...)
		}
		sayApart(t, lists)
		sayEntriesApart(t, append(fresh.Nodes, again.Nodes...))
	}
}

// One list in all boxes, and one in all lists of places, is no reason to share
// it in the answer.
func TestOneListInAllOfATree(t *testing.T) {
	p := withSpare([]int64{1, 2})
	r := impl.Rect{Low: p, High: p}
	tr := impl.Tree{Arena: impl.Arena{Dims: 2, Nodes: []impl.Node{
		{Level: 1, Entries: []impl.Entry{entryOf(3, 4, r), entryOf(4, 4, r)}}, vacant(), vacant(),
		leafOf(entryOf(7, 0, r), entryOf(5, 0, r)), leafOf(entryOf(9, 0, r), entryOf(2, 0, r)), vacant(),
	}, Free: p, Retired: []impl.Retired{{Id: 5, Watch: p}}}, Counter: 4}
	was := slices.Clone(whole(p))
	for _, q := range []impl.Query{windowOf(r), insideOf(r), pointAt(p...), nearTo(4, p...)} {
		x := treeArgs{tr, q}
		var lists [][]int64
		for _, answer := range x.pairAnswers() {
			if answer.Code != impl.OK || !slices.Equal(idsOf(answer.Pairs), []int64{2, 5, 7, 9}) {
				t.Fatalf("%v", answer)
			}
			lists = append(lists, listsOf(answer.Pairs)...)
		}
		sayApart(t, append(lists, impl.ReachOf(tr).List))
		if !slices.Equal(whole(p), was) {
			t.Fatalf("who writes an answer writes the argument: %v", p)
		}
	}
}
