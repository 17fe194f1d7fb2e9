package tests

import (
	"reflect"
	"slices"
	"testing"

	"loop.example/g00680/impl"
)

func (x dropArgs) spared() dropArgs {
	x.t.Arena, x.p.Rect, x.watch = spareArena(x.t.Arena), spareBox(x.p.Rect), withSpare(x.watch)
	return x
}

func (x dropArgs) lists() [][]int64 {
	return append(arenaLists(x.t.Arena), x.p.Rect.Low, x.p.Rect.High, x.watch)
}

func (x dropArgs) numbers() []int64 {
	return append(arenaNumbers(x.t.Arena), x.t.Style, x.t.Root, x.t.RootNsn, x.t.Counter, x.p.Id)
}

func (x dropArgs) scribble() {
	scribbleArena(x.t.Arena)
	fill(x.p.Rect.Low, 48)
	fill(x.p.Rect.High, 49)
	fill(x.watch, 50)
}

func (x dropArgs) answers() []any {
	return []any{impl.DropTrace(x.t, x.p, x.watch), impl.DropFrom(x.t, x.p)}
}

// arenas are those of all trees of the answers; what moved stands as a node of
// one more.
func (x dropArgs) arenas() []impl.Arena {
	trace := impl.DropTrace(x.t, x.p, x.watch)
	list := []impl.Arena{impl.DropFrom(x.t, x.p).Tree.Arena}
	for _, tr := range trace.Trees {
		list = append(list, tr.Arena)
	}
	for _, m := range trace.Moves {
		list = append(list, impl.Arena{Nodes: []impl.Node{bare(m.Entries)}})
	}
	return list
}

// rightDrops join and share leaves and nodes above them, turn the root, and
// only make boxes smaller.
func rightDrops() []dropArgs {
	var all []dropArgs
	for dims := int64(2); dims <= 3; dims++ {
		trees := []impl.Tree{oneLevel(dims, 1), oneLevel(dims, 4), twoLevels(dims), threeLevels(dims)}
		trees = append(trees,
			grown(dims, []int{2, 4}, []int{2}), grown(dims, []int{4, 2, 4}, []int{3}), grown(dims, []int{2, 2}, []int{2}),
			grown(dims, times(6, 2), []int{2, 4}, []int{2}), grown(dims, times(6, 2), []int{4, 2}, []int{2}), grown(dims, times(4, 2), []int{2, 2}, []int{2}))
		for i, tr := range trees {
			for style := range int64(2) {
				tr.Style = style
				for k, p := range tourOf(tr).pairs {
					all = append(all, dropArgs{tr, p, watches()[(i+3*k)%16]})
				}
			}
		}
	}
	return all
}

func wrongDrops() []dropArgs {
	var all []dropArgs
	for _, c := range append(dropFaults(), dropFaultsAtOnce()...) {
		all = append(all, c.x)
	}
	for _, tr := range sameTreesToAsk() {
		all = append(all, dropArgs{tr, withIdsAlone(2, 30)[0], []int64{1, 2}})
	}
	for _, c := range treeFaults() {
		all = append(all, dropArgs{c.t, withIdsAlone(2, 30)[0], []int64{1, 2}})
	}
	return all
}

func TestRightDropsDoAll(t *testing.T) {
	done := map[string]int{}
	for _, x := range rightDrops() {
		if got := impl.DropTrace(x.t, x.p, x.watch); got.Code != impl.OK {
			t.Fatalf("the code %d of %v", got.Code, x)
		}
		for _, did := range modelDrop(x.t, x.p, x.watch).did {
			done[did]++
		}
	}
	for _, did := range []string{didFit, didStay, didJoinAhead, didJoinBehind, didShareOne, didShareBoth, didMendTwice, didFree, didRetire, didTurnRoot} {
		if done[did] < 4 {
			t.Errorf("seldom: %s: %v", did, done)
		}
	}
}

func TestDropArgumentsStay(t *testing.T) {
	for _, x := range append(rightDrops(), wrongDrops()...) {
		s := x.spared()
		lists, numbers := pictureOf(s.lists()), s.numbers()
		s.answers()
		if !samePicture(pictureOf(s.lists()), lists) || !slices.Equal(s.numbers(), numbers) {
			t.Fatalf("an argument was changed: %v", x)
		}
	}
}

func TestDropAnswersHangOnArgumentsAlone(t *testing.T) {
	for _, x := range append(rightDrops(), wrongDrops()...) {
		first := x.answers()
		for range 3 {
			if again := x.spared().answers(); !reflect.DeepEqual(again, first) {
				t.Fatalf("%v: first %v, then %v", x, first, again)
			}
		}
	}
}

// Empty lists in place of nil change no answer.
func TestDropWithEmptyLists(t *testing.T) {
	for _, none := range append(rightDrops(), wrongDrops()...) {
		empty := dropArgs{cloneTree(none.t), clonePair(none.p), append([]int64{}, none.watch...)}
		a, r := &empty.t.Arena, &empty.p.Rect
		for i := range a.Nodes {
			a.Nodes[i].Entries = append([]impl.Entry{}, a.Nodes[i].Entries...)
		}
		a.Nodes = append([]impl.Node{}, a.Nodes...)
		a.Free = append([]int64{}, a.Free...)
		a.Retired = append([]impl.Retired{}, a.Retired...)
		r.Low, r.High = append([]int64{}, r.Low...), append([]int64{}, r.High...)
		if !reflect.DeepEqual(empty.answers(), none.answers()) {
			t.Fatalf("%v, not %v", empty.answers(), none.answers())
		}
	}
}

func TestDropAnswersShareNothingWithArguments(t *testing.T) {
	for _, x := range rightDrops() {
		s := x.spared()
		lists, numbers := pictureOf(s.lists()), s.numbers()
		for _, a := range s.arenas() {
			scribbleArena(a)
		}
		if !samePicture(pictureOf(s.lists()), lists) || !slices.Equal(s.numbers(), numbers) {
			t.Fatalf("who writes an answer writes an argument: %v", x)
		}
		answers, want := s.answers(), x.answers()
		s.scribble()
		if !reflect.DeepEqual(answers, want) {
			t.Fatalf("who writes an argument writes an answer: %v", x)
		}
	}
}

func TestListsOfDropAnswersShareNothing(t *testing.T) {
	for _, x := range rightDrops() {
		var lists [][]int64
		var nodes []impl.Node
		for _, a := range append(x.arenas(), x.arenas()...) {
			lists = append(lists, arenaLists(a)...)
			nodes = append(nodes, a.Nodes...)
		}
		sayApart(t, lists)
		sayEntriesApart(t, nodes)
	}
}

// Who writes one tree of an answer, or what moved by one step, writes no other
// one.
func TestTreesAndMovesShareNothing(t *testing.T) {
	for _, x := range rightDrops() {
		list := x.arenas()
		var was []impl.Arena
		for _, a := range list {
			was = append(was, cloneArena(a))
		}
		for i, a := range list {
			if !likeArena(a, was[i]) {
				t.Fatalf("the answer %d shares memory with one ahead of it: %v", i, x)
			}
			scribbleArena(a)
		}
		list = x.arenas()
		for i := len(list) - 1; i >= 0; i-- {
			if !likeArena(list[i], was[i]) {
				t.Fatalf("the answer %d shares memory with one behind it: %v", i, x)
			}
			scribbleArena(list[i])
		}
	}
}

// One list in all boxes and lists of the arguments is no reason to share it in
// the answer.
func TestOneListInAllOfADrop(t *testing.T) {
	p := withSpare([]int64{1, 2})
	r := impl.Rect{Low: p, High: p}
	leaf := func(ids ...int64) impl.Node {
		n := vacant()
		for _, id := range ids {
			n.Entries = append(n.Entries, entryOf(id, 0, r))
		}
		return n
	}
	for _, behind := range [][]int64{{6, 7}, {6, 7, 8, 9}} {
		tr := impl.Tree{Arena: impl.Arena{Dims: 2, Nodes: []impl.Node{
			leaf(4, 5), vacant(), vacant(), leaf(behind...), leaf(1, 2), {Level: 1, Right: 3, Entries: []impl.Entry{entryOf(0, 0, r), entryOf(3, 0, r)}},
		}, Free: p, Retired: []impl.Retired{{Id: 4, Watch: p}}}, Root: 5}
		was := slices.Clone(whole(p))
		for style := range int64(2) {
			tr.Style = style
			x := dropArgs{tr, pairOf(5, r), p}
			if code, _ := sayDrop(t, "one list", x.t, x.p, x.watch); code != impl.OK {
				t.Fatalf("the code %d", code)
			}
			var lists [][]int64
			for _, a := range x.arenas() {
				lists = append(lists, arenaLists(a)...)
			}
			sayApart(t, lists)
			if !slices.Equal(whole(p), was) {
				t.Fatalf("who writes an answer writes the argument: %v", p)
			}
		}
	}
}
