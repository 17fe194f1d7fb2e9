package tests

import (
	"reflect"
	"slices"
	"testing"

	"loop.example/g00680/impl"
)

func spareEntry(e impl.Entry) impl.Entry {
	return entryOf(e.Ref, e.Nsn, spareBox(e.Rect))
}

// spareNode lays the entries into memory of their own, with room behind each
// list that a careless append would write.
func spareNode(n impl.Node) impl.Node {
	if n.Entries == nil {
		return n
	}
	room := make([]impl.Entry, 0, len(n.Entries)+3)
	for _, e := range n.Entries {
		room = append(room, spareEntry(e))
	}
	for range 3 {
		room = append(room, spareEntry(entryOf(spare, spare, flat(spare, spare, spare, spare))))
	}
	return holding(n, room[:len(n.Entries)])
}

// nodeLists are all lists of numbers that the node can reach.
func nodeLists(n impl.Node) [][]int64 {
	var lists [][]int64
	for _, e := range n.Entries[:cap(n.Entries)] {
		lists = append(lists, e.Rect.Low, e.Rect.High)
	}
	return lists
}

// nodeNumbers are all other numbers that the node can reach.
func nodeNumbers(n impl.Node) []int64 {
	numbers := []int64{n.Level, n.Nsn, n.Right}
	for _, e := range n.Entries[:cap(n.Entries)] {
		numbers = append(numbers, e.Ref, e.Nsn)
	}
	return numbers
}

// nodeArgs are the arguments of one call of each function of chapter 3.
type nodeArgs struct {
	n    impl.Node
	dims int64
	e    impl.Entry
}

func (a nodeArgs) spared() nodeArgs {
	return nodeArgs{spareNode(a.n), a.dims, spareEntry(a.e)}
}

func (a nodeArgs) lists() [][]int64 {
	return append(nodeLists(a.n), a.e.Rect.Low, a.e.Rect.High)
}

// refs are the one that is asked for and all that are there.
func (a nodeArgs) refs() []int64 {
	refs := []int64{a.e.Ref}
	for _, e := range a.n.Entries {
		refs = append(refs, e.Ref)
	}
	return refs
}

// nodeAnswers are the answers that have memory; a box stands as the only entry
// of a node.
func (a nodeArgs) nodeAnswers() []impl.NodeResult {
	around := impl.BoxOf(a.n, a.dims)
	answers := []impl.NodeResult{
		impl.WithEntry(a.n, a.dims, a.e),
		{Code: around.Code, Node: impl.Node{Entries: []impl.Entry{{Rect: around.Rect}}}},
	}
	for _, ref := range a.refs() {
		answers = append(answers, impl.WithoutEntry(a.n, a.dims, ref), impl.WidenEntry(a.n, a.dims, ref, a.e.Rect))
	}
	return answers
}

func (a nodeArgs) answers() []any {
	nodes := []impl.Node{a.n, {Entries: []impl.Entry{a.e}}}
	all := []any{impl.NodeFault(a.n, a.dims), a.nodeAnswers(), impl.SameNodes(nodes, nodes), impl.SameNodes(nodes[:1], nodes[1:])}
	for _, ref := range a.refs() {
		all = append(all, impl.EntryFor(a.n, a.dims, ref))
	}
	return all
}

func rightNodeArgs() []nodeArgs {
	var all []nodeArgs
	for dims := int64(2); dims <= 3; dims++ {
		for _, head := range heads() {
			for count := range 6 {
				n := holding(head, someEntries(head.Level, dims, count))
				for _, ref := range []int64{30, 17, 38} {
					all = append(all, nodeArgs{n, dims, entryOf(ref, 0, rightBox(dims))}, nodeArgs{n, dims, entryOf(ref, 0, entryBox(dims, 0))})
				}
			}
		}
	}
	return all
}

func wrongNodeArgs() []nodeArgs {
	all := []nodeArgs{{brokenNode(), 2, impl.Entry{}}, {brokenNode(), 3, entryOf(1, 1, rightBox(3))}}
	for _, c := range allNodeFaults() {
		all = append(all, nodeArgs{c.n, c.dims, entryOf(2, 0, flat(0, 0, 1, 1))})
	}
	for _, r := range []impl.Rect{{}, rectForm, rectMany, rectRange} {
		for _, ref := range []int64{-1, 2, 30, 1000} {
			all = append(all, nodeArgs{leafOf(someEntries(0, 2, 3)...), 2, entryOf(ref, 1, r)}, nodeArgs{innerOf(someEntries(1, 2, 5)...), 2, entryOf(ref, 1, r)})
		}
	}
	return all
}

func TestNodeArgumentsStay(t *testing.T) {
	for _, a := range append(rightNodeArgs(), wrongNodeArgs()...) {
		s := a.spared()
		lists, numbers := pictureOf(s.lists()), nodeNumbers(s.n)
		s.answers()
		if !samePicture(pictureOf(s.lists()), lists) || !slices.Equal(nodeNumbers(s.n), numbers) {
			t.Fatalf("an argument was changed: %v", a)
		}
	}
}

func TestNodeAnswersHangOnArgumentsAlone(t *testing.T) {
	for _, a := range append(rightNodeArgs(), wrongNodeArgs()...) {
		first := a.answers()
		for range 3 {
			if again := a.spared().answers(); !reflect.DeepEqual(again, first) {
				t.Fatalf("%v: first %v, then %v", a, first, again)
			}
		}
	}
}

// scribbleNode writes all that a node can reach.
func scribbleNode(n impl.Node) {
	for _, list := range nodeLists(n) {
		fill(list, 41)
	}
	all := n.Entries[:cap(n.Entries)]
	for i := range all {
		all[i] = impl.Entry{Ref: 42, Nsn: 43}
	}
}

func TestNodeAnswersShareNothingWithArguments(t *testing.T) {
	for _, a := range rightNodeArgs() {
		s := a.spared()
		lists, numbers := pictureOf(s.lists()), nodeNumbers(s.n)
		for _, answer := range s.nodeAnswers() {
			scribbleNode(answer.Node)
		}
		if !samePicture(pictureOf(s.lists()), lists) || !slices.Equal(nodeNumbers(s.n), numbers) {
			t.Fatalf("who writes an answer writes an argument: %v", a)
		}
		answers, want := s.nodeAnswers(), a.nodeAnswers()
		scribbleNode(s.n)
		fill(s.e.Rect.Low, 44)
		fill(s.e.Rect.High, 45)
		if !reflect.DeepEqual(answers, want) {
			t.Fatalf("who writes an argument writes an answer: %v", a)
		}
	}
}

// Each list of numbers of all answers gets a number of its own, and each list
// of entries too; where two share memory, the first of them has lost it.
func TestListsOfNodeAnswersShareNothing(t *testing.T) {
	for _, a := range rightNodeArgs() {
		answers := a.nodeAnswers()
		var lists [][]int64
		for _, answer := range answers {
			lists = append(lists, nodeLists(answer.Node)...)
		}
		for i, list := range lists {
			fill(list, int64(i))
		}
		for i, list := range lists {
			if slices.ContainsFunc(whole(list), func(n int64) bool { return n != int64(i) }) {
				t.Fatalf("two lists share memory: %v", a)
			}
		}
		for i, answer := range answers {
			for k := range answer.Node.Entries {
				answer.Node.Entries[k].Ref = int64(i)
			}
		}
		for i, answer := range answers {
			if slices.ContainsFunc(answer.Node.Entries, func(e impl.Entry) bool { return e.Ref != int64(i) }) {
				t.Fatalf("two nodes share their entries: %v", a)
			}
		}
	}
}

// One list in several arguments is no reason to share it in the answer.
func TestOneBoxInManyEntries(t *testing.T) {
	p := withSpare([]int64{1, 2})
	r := impl.Rect{Low: p, High: p}
	n := innerOf(entryOf(1, 1, r), entryOf(2, 2, r), entryOf(3, 3, r))
	was := copyWhole(r)
	answers := []impl.Node{impl.WithEntry(n, 2, entryOf(4, 4, r)).Node, impl.WithoutEntry(n, 2, 2).Node, impl.WidenEntry(n, 2, 2, r).Node}
	answers = append(answers, impl.Node{Entries: []impl.Entry{{Rect: impl.BoxOf(n, 2).Rect}}})
	for i, count := range []int{4, 2, 3, 1} {
		if len(answers[i].Entries) != count {
			t.Fatalf("%d entries, not %d", len(answers[i].Entries), count)
		}
		lists := nodeLists(answers[i])
		for k, list := range lists {
			fill(list, int64(k))
		}
		for k, list := range lists {
			if slices.ContainsFunc(list, func(n int64) bool { return n != int64(k) }) {
				t.Fatalf("two lists share memory: %v", answers[i])
			}
		}
		if !sameWhole(r, was) {
			t.Fatalf("who writes an answer writes the argument: %v", r)
		}
	}
}
