package tests

import (
	"reflect"
	"slices"
	"testing"

	"loop.example/g00680/impl"
)

// splitArgs are the arguments of one call of each function of chapter 5.
type splitArgs struct {
	list  []impl.Entry
	dims  int64
	r     impl.Rect
	axis  int64
	style int64
}

// A list of entries has the memory of a node that has nothing else.
func bare(list []impl.Entry) impl.Node {
	return impl.Node{Entries: list}
}

func (a splitArgs) spared() splitArgs {
	a.list, a.r = spareNode(bare(a.list)).Entries, spareBox(a.r)
	return a
}

func (a splitArgs) lists() [][]int64 {
	return append(nodeLists(bare(a.list)), a.r.Low, a.r.High)
}

func (a splitArgs) numbers() []int64 {
	return nodeNumbers(bare(a.list))
}

func (a splitArgs) scribble() {
	scribbleNode(bare(a.list))
	fill(a.r.Low, 44)
	fill(a.r.High, 45)
}

// entriesAnswers are all lists of entries that are answered, each of them in a
// node of its own.
func (a splitArgs) entriesAnswers() []impl.Node {
	var nodes []impl.Node
	for _, p := range []impl.PartsResult{impl.SplitQuad(a.list, a.dims), impl.SplitStar(a.list, a.dims), impl.SplitBy(a.style, a.list, a.dims)} {
		nodes = append(nodes, bare(p.First), bare(p.Second))
	}
	return append(nodes, bare(impl.SortAxis(a.list, a.dims, a.axis).Entries))
}

func (a splitArgs) answers() []any {
	return []any{
		impl.EntriesFault(a.list, a.dims), impl.ChooseEntry(a.list, a.dims, a.r), impl.SeedsOf(a.list, a.dims), impl.AxisOf(a.list, a.dims),
		impl.SplitQuad(a.list, a.dims), impl.SplitStar(a.list, a.dims), impl.SplitBy(a.style, a.list, a.dims), impl.SortAxis(a.list, a.dims, a.axis),
	}
}

func rightSplitArgs() []splitArgs {
	var all []splitArgs
	for dims := int64(2); dims <= 3; dims++ {
		for count := range 9 {
			for axis := range dims {
				all = append(all, splitArgs{rightList(dims, count), dims, rightBox(dims), axis, axis % 2})
			}
		}
	}
	for _, c := range append(quadCases(), starCases()...) {
		dims := int64(len(c.boxes[0].Low))
		all = append(all, splitArgs{entriesOf(c.boxes...), dims, rightBox(dims), dims - 1, 1})
	}
	return all
}

func wrongSplitArgs() []splitArgs {
	all := []splitArgs{
		{rightList(3, 8), 3, rectForm, 3, 2},
		{rightList(2, 8), 2, rectMany, -1, -1},
		{rightList(2, 4), 2, impl.Rect{}, 2, 2},
		{nil, 2, rightBox(2), 0, 0},
	}
	for _, c := range listFaults() {
		all = append(all, splitArgs{c.a.list, c.a.dims, rightBox(2), 0, 1})
	}
	return all
}

func TestSplitArgumentsStay(t *testing.T) {
	for _, a := range append(rightSplitArgs(), wrongSplitArgs()...) {
		s := a.spared()
		lists, numbers := pictureOf(s.lists()), s.numbers()
		s.answers()
		if !samePicture(pictureOf(s.lists()), lists) || !slices.Equal(s.numbers(), numbers) {
			t.Fatalf("an argument was changed: %v", a)
		}
	}
}

func TestSplitAnswersHangOnArgumentsAlone(t *testing.T) {
	for _, a := range append(rightSplitArgs(), wrongSplitArgs()...) {
		first := a.answers()
		for range 3 {
			if again := a.spared().answers(); !reflect.DeepEqual(again, first) {
				t.Fatalf("%v: first %v, then %v", a, first, again)
			}
		}
	}
}

// Empty lists in place of nil change no answer.
func TestSplitWithEmptyLists(t *testing.T) {
	for _, r := range []impl.Rect{rightBox(2), {}, rectForm} {
		for dims := int64(1); dims <= 4; dims++ {
			none := splitArgs{nil, dims, r, 0, 0}
			empty := splitArgs{[]impl.Entry{}, dims, r, 0, 0}
			if !reflect.DeepEqual(empty.answers(), none.answers()) {
				t.Errorf("%v, not %v", empty.answers(), none.answers())
			}
		}
	}
	boxless := []impl.Entry{{Rect: impl.Rect{Low: []int64{}, High: []int64{}}}}
	sayListFault(t, asked{boxless, 2}, impl.ErrMany)
}

func TestSplitAnswersShareNothingWithArguments(t *testing.T) {
	for _, a := range rightSplitArgs() {
		s := a.spared()
		lists, numbers := pictureOf(s.lists()), s.numbers()
		for _, n := range s.entriesAnswers() {
			scribbleNode(n)
		}
		if !samePicture(pictureOf(s.lists()), lists) || !slices.Equal(s.numbers(), numbers) {
			t.Fatalf("who writes an answer writes an argument: %v", a)
		}
		answers, want := s.entriesAnswers(), a.entriesAnswers()
		s.scribble()
		if !reflect.DeepEqual(answers, want) {
			t.Fatalf("who writes an argument writes an answer: %v", a)
		}
	}
}

func TestListsOfSplitAnswersShareNothing(t *testing.T) {
	for _, a := range rightSplitArgs() {
		nodes := a.entriesAnswers()
		var lists [][]int64
		for _, n := range nodes {
			lists = append(lists, nodeLists(n)...)
		}
		sayApart(t, lists)
		sayEntriesApart(t, nodes)
	}
}

func TestSeedsShareNothing(t *testing.T) {
	list := entriesOf(bars([2]int64{4, 5}, [2]int64{0, 1}, [2]int64{6, 7}, [2]int64{10, 11})...)
	first, second := impl.SeedsOf(list, 2).List, impl.SeedsOf(list, 2).List
	fill(first, 41)
	if !slices.Equal(second, []int64{1, 3}) || !slices.Equal(impl.SeedsOf(list, 2).List, []int64{1, 3}) {
		t.Error("who writes one answer writes another one")
	}
}

// One list in several boxes is no reason to share it in the answer.
func TestOneListInManyBoxes(t *testing.T) {
	p := withSpare([]int64{1, 2})
	var list []impl.Entry
	for ref := range int64(8) {
		list = append(list, entryOf(ref, ref, impl.Rect{Low: p, High: p}))
	}
	was := slices.Clone(whole(p))
	for axis := range int64(2) {
		for style := range int64(2) {
			nodes := splitArgs{list, 2, rightBox(2), axis, style}.entriesAnswers()
			var lists [][]int64
			count := 0
			for _, n := range nodes {
				lists = append(lists, nodeLists(n)...)
				count += len(n.Entries)
			}
			if count != 4*8 {
				t.Fatalf("%d entries", count)
			}
			sayApart(t, lists)
			sayEntriesApart(t, nodes)
			if !slices.Equal(whole(p), was) {
				t.Fatalf("who writes an answer writes the argument: %v", p)
			}
		}
	}
}
