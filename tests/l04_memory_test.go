package tests

import (
	"reflect"
	"slices"
	"testing"

	"loop.example/g00680/impl"
)

// spareArena lays the arena into memory of its own, with room behind each list
// that a careless append would write.
func spareArena(a impl.Arena) impl.Arena {
	s := impl.Arena{Dims: a.Dims, Free: withSpare(a.Free)}
	if a.Nodes != nil {
		room := make([]impl.Node, 0, len(a.Nodes)+3)
		for _, n := range a.Nodes {
			room = append(room, spareNode(n))
		}
		s.Nodes = append(room, impl.Node{Nsn: spare}, impl.Node{Nsn: spare}, impl.Node{Nsn: spare})[:len(a.Nodes)]
	}
	if a.Retired != nil {
		room := make([]impl.Retired, 0, len(a.Retired)+3)
		for _, r := range a.Retired {
			room = append(room, impl.Retired{Id: r.Id, Watch: withSpare(r.Watch)})
		}
		s.Retired = append(room, retiredAt(spare, spare), retiredAt(spare, spare), retiredAt(spare, spare))[:len(a.Retired)]
	}
	return s
}

// arenaLists are all lists of numbers that the arena can reach.
func arenaLists(a impl.Arena) [][]int64 {
	lists := [][]int64{a.Free}
	for _, n := range a.Nodes[:cap(a.Nodes)] {
		lists = append(lists, nodeLists(n)...)
	}
	for _, r := range a.Retired[:cap(a.Retired)] {
		lists = append(lists, r.Watch)
	}
	return lists
}

// arenaNumbers are all other numbers that the arena can reach.
func arenaNumbers(a impl.Arena) []int64 {
	numbers := []int64{a.Dims}
	for _, n := range a.Nodes[:cap(a.Nodes)] {
		numbers = append(numbers, nodeNumbers(n)...)
	}
	for _, r := range a.Retired[:cap(a.Retired)] {
		numbers = append(numbers, r.Id)
	}
	return numbers
}

// scribbleArena writes all that an arena can reach.
func scribbleArena(a impl.Arena) {
	for _, list := range arenaLists(a) {
		fill(list, 41)
	}
	nodes, retired := a.Nodes[:cap(a.Nodes)], a.Retired[:cap(a.Retired)]
	for i := range nodes {
		scribbleNode(nodes[i])
		nodes[i] = impl.Node{Level: 44, Nsn: 45, Right: 46}
	}
	for i := range retired {
		retired[i] = impl.Retired{Id: 47}
	}
}

// arenaArgs are the arguments of one call of each function of chapter 4.
type arenaArgs struct {
	a      impl.Arena
	n      impl.Node
	id     int64
	watch  []int64
	client int64
}

func (x arenaArgs) spared() arenaArgs {
	return arenaArgs{spareArena(x.a), spareNode(x.n), x.id, withSpare(x.watch), x.client}
}

func (x arenaArgs) lists() [][]int64 {
	return slices.Concat(arenaLists(x.a), nodeLists(x.n), [][]int64{x.watch})
}

func (x arenaArgs) numbers() []int64 {
	return append(arenaNumbers(x.a), nodeNumbers(x.n)...)
}

func (x arenaArgs) scribble() {
	scribbleArena(x.a)
	scribbleNode(x.n)
	fill(x.watch, 48)
}

// arenaAnswers are the answers that have memory; a node that is read stands as
// the only one of an arena.
func (x arenaArgs) arenaAnswers() []impl.ArenaResult {
	read := impl.ReadNode(x.a, x.id)
	return []impl.ArenaResult{
		impl.TakeNode(x.a, x.n), impl.WriteNode(x.a, x.id, x.n), impl.RetireNode(x.a, x.id, x.watch), impl.EndWatch(x.a, x.client),
		impl.NewArena(x.a.Dims, int64(len(x.a.Nodes))),
		{Code: read.Code, Arena: impl.Arena{Nodes: []impl.Node{read.Node}}},
	}
}

func (x arenaArgs) answers() []any {
	other := impl.Arena{Dims: x.a.Dims, Nodes: []impl.Node{x.n}, Free: x.watch}
	return []any{impl.ArenaFault(x.a), x.arenaAnswers(), impl.SameArenas(x.a, x.a), impl.SameArenas(x.a, other), impl.SameArenas(other, other)}
}

func rightArenaArgs() []arenaArgs {
	var all []arenaArgs
	for dims := int64(2); dims <= 3; dims++ {
		for _, a := range []impl.Arena{freshArena(dims, 4), fullArena(dims, 4), someArena(dims), freshArena(dims, 40), fullArena(dims, 40)} {
			for id := range min(int64(len(a.Nodes)), 10) {
				for _, watch := range [][]int64{nil, {2}, {0, 3}, {0, 1, 2, 3}} {
					all = append(all, arenaArgs{a, nodeAt(id+3, dims), id, watch, id % 4})
				}
			}
		}
	}
	return all
}

func wrongArenaArgs() []arenaArgs {
	var all []arenaArgs
	for _, a := range sameArenasToAsk() {
		all = append(all, arenaArgs{a, brokenNode(), 0, []int64{3, 1}, 4}, arenaArgs{a, nodeAt(3, 2), 0, nil, 1})
	}
	for _, c := range slices.Concat(arenaFaults(), arenaFaultsInARow()) {
		all = append(all, arenaArgs{c.a, nodeAt(3, 2), 0, []int64{1}, 3})
	}
	for _, c := range nodeFaults() {
		all = append(all, arenaArgs{someArena(2), c.n, 3, []int64{0, 1, 2, 3, 4}, -1})
	}
	for _, id := range []int64{-1, 2, 6, 9} {
		all = append(all, arenaArgs{someArena(3), nodeAt(3, 3), id, []int64{2, 4}, 3})
	}
	return all
}

func TestArenaArgumentsStay(t *testing.T) {
	for _, x := range append(rightArenaArgs(), wrongArenaArgs()...) {
		s := x.spared()
		lists, numbers := pictureOf(s.lists()), s.numbers()
		s.answers()
		if !samePicture(pictureOf(s.lists()), lists) || !slices.Equal(s.numbers(), numbers) {
			t.Fatalf("an argument was changed: %v", x)
		}
	}
}

func TestArenaAnswersHangOnArgumentsAlone(t *testing.T) {
	for _, x := range append(rightArenaArgs(), wrongArenaArgs()...) {
		first := x.answers()
		for range 3 {
			if again := x.spared().answers(); !reflect.DeepEqual(again, first) {
				t.Fatalf("%v: first %v, then %v", x, first, again)
			}
		}
	}
}

// Empty lists in place of nil change no answer.
func TestArenaWithEmptyLists(t *testing.T) {
	for _, room := range []int64{4, 40} {
		a, b := fullArena(2, room), fullArena(2, room)
		b.Free, b.Retired = []int64{}, []impl.Retired{}
		for i := range b.Nodes {
			if b.Nodes[i].Entries == nil {
				b.Nodes[i].Entries = []impl.Entry{}
			}
		}
		empty := arenaArgs{b, impl.Node{Right: impl.NoNode, Entries: []impl.Entry{}}, 3, []int64{}, 2}
		if none := (arenaArgs{a, vacant(), 3, nil, 2}); !reflect.DeepEqual(empty.arenaAnswers(), none.arenaAnswers()) {
			t.Errorf("%v, not %v", empty.arenaAnswers(), none.arenaAnswers())
		}
	}
	free := freshArena(2, 4)
	free.Nodes[2].Entries = []impl.Entry{}
	sayArenaHolds(t, free)
}

func TestArenaAnswersShareNothingWithArguments(t *testing.T) {
	for _, x := range rightArenaArgs() {
		s := x.spared()
		lists, numbers := pictureOf(s.lists()), s.numbers()
		for _, answer := range s.arenaAnswers() {
			scribbleArena(answer.Arena)
		}
		if !samePicture(pictureOf(s.lists()), lists) || !slices.Equal(s.numbers(), numbers) {
			t.Fatalf("who writes an answer writes an argument: %v", x)
		}
		answers, want := s.arenaAnswers(), x.arenaAnswers()
		s.scribble()
		if !reflect.DeepEqual(answers, want) {
			t.Fatalf("who writes an argument writes an answer: %v", x)
		}
	}
}

// sayApart gives each list of numbers a number of its own; where two share
// memory, the first of them has lost it.
func sayApart(t *testing.T, lists [][]int64) {
	t.Helper()
	for i, list := range lists {
		fill(list, int64(i))
	}
	for i, list := range lists {
		if slices.ContainsFunc(whole(list), func(n int64) bool { return n != int64(i) }) {
			t.Fatalf("the list %d shares memory with another one", i)
		}
	}
}

// sayEntriesApart does the same with the lists of entries.
func sayEntriesApart(t *testing.T, nodes []impl.Node) {
	t.Helper()
	for i, n := range nodes {
		all := n.Entries[:cap(n.Entries)]
		for k := range all {
			all[k].Ref = int64(i)
		}
	}
	for i, n := range nodes {
		if slices.ContainsFunc(n.Entries[:cap(n.Entries)], func(e impl.Entry) bool { return e.Ref != int64(i) }) {
			t.Fatalf("the entries of the node %d share memory with others", i)
		}
	}
}

func TestListsOfArenaAnswersShareNothing(t *testing.T) {
	for _, x := range rightArenaArgs() {
		var lists [][]int64
		var nodes []impl.Node
		for _, answer := range x.arenaAnswers() {
			lists = append(lists, arenaLists(answer.Arena)...)
			nodes = append(nodes, answer.Arena.Nodes...)
		}
		sayApart(t, lists)
		sayEntriesApart(t, nodes)
	}
}

// One list in several arguments is no reason to share it in the answer.
func TestOneListInManyPlaces(t *testing.T) {
	p := withSpare([]int64{1, 2})
	entries := []impl.Entry{entryOf(1, 0, impl.Rect{Low: p, High: p})}
	leaf := leafOf(entries...)
	a := impl.Arena{
		Dims:    2,
		Nodes:   []impl.Node{leaf, vacant(), vacant(), leaf, leaf},
		Free:    p,
		Retired: []impl.Retired{{Id: 4, Watch: p}, {Id: 3, Watch: p}},
	}
	was := slices.Clone(whole(p))
	answers := []impl.ArenaResult{impl.TakeNode(a, leaf), impl.WriteNode(a, 3, leaf), impl.RetireNode(a, 0, p), impl.EndWatch(a, 1)}
	for _, answer := range answers {
		if answer.Code != impl.OK {
			t.Fatalf("%v", answer)
		}
		sayApart(t, arenaLists(answer.Arena))
		sayEntriesApart(t, answer.Arena.Nodes)
		if !slices.Equal(whole(p), was) || entries[0].Ref != 1 {
			t.Fatalf("who writes an answer writes the argument: %v", p)
		}
	}
}
