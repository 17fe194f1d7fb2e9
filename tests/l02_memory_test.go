package tests

import (
	"reflect"
	"slices"
	"testing"

	"loop.example/g00680/impl"
)

// sparePairs lays the pairs into memory of their own, with room behind each
// list that a careless append would write.
func sparePairs(list []impl.Pair) []impl.Pair {
	if list == nil {
		return nil
	}
	room := make([]impl.Pair, 0, len(list)+3)
	for _, p := range list {
		room = append(room, pairOf(p.Id, spareBox(p.Rect)))
	}
	for range 3 {
		room = append(room, pairOf(spare, spareBox(flat(spare, spare, spare, spare))))
	}
	return room[:len(list)]
}

func spareQuery(q impl.Query) impl.Query {
	return impl.Query{Kind: q.Kind, Rect: spareBox(q.Rect), Point: withSpare(q.Point), K: q.K}
}

// listsOf are all lists of numbers that the pairs can reach.
func listsOf(pairs []impl.Pair) [][]int64 {
	var lists [][]int64
	for _, p := range pairs[:cap(pairs)] {
		lists = append(lists, p.Rect.Low, p.Rect.High)
	}
	return lists
}

// pictureOf copies all that the lists can reach, with what is behind their
// ends.
func pictureOf(lists [][]int64) [][]int64 {
	var copies [][]int64
	for _, list := range lists {
		copies = append(copies, slices.Clone(whole(list)))
	}
	return copies
}

func samePicture(a [][]int64, b [][]int64) bool {
	return slices.EqualFunc(a, b, func(x []int64, y []int64) bool { return slices.Equal(x, y) })
}

// modelArgs are the arguments of one call of each function of chapter 2.
type modelArgs struct {
	list []impl.Pair
	dims int64
	p    impl.Pair
	q    impl.Query
}

func (m modelArgs) spared() modelArgs {
	return modelArgs{sparePairs(m.list), m.dims, pairOf(m.p.Id, spareBox(m.p.Rect)), spareQuery(m.q)}
}

func (m modelArgs) lists() [][]int64 {
	return append(listsOf(m.list), m.p.Rect.Low, m.p.Rect.High, m.q.Rect.Low, m.q.Rect.High, m.q.Point)
}

func (m modelArgs) ids() []int64 {
	return idsOf(m.list[:cap(m.list)])
}

// pairAnswers are the answers that have pairs.
func (m modelArgs) pairAnswers() []impl.PairsResult {
	answers := []impl.PairsResult{impl.AddPair(m.list, m.dims, m.p), impl.TakePair(m.list, m.dims, m.p), impl.AnswerOf(m.list, m.dims, m.q)}
	for i := 0; i < len(m.list); i += 1 + len(m.list)/4 {
		p := m.list[i]
		found := impl.FindPair(m.list, m.dims, p.Id)
		answers = append(answers, impl.TakePair(m.list, m.dims, p), impl.PairsResult{Code: found.Code, Pairs: []impl.Pair{found.Pair}})
	}
	return answers
}

func (m modelArgs) answers() []any {
	return []any{
		impl.ModelFault(m.list, m.dims), impl.FindPair(m.list, m.dims, m.p.Id), impl.QueryFault(m.q, m.dims),
		impl.Matches(m.q, m.dims, m.p.Rect), impl.SamePairs(m.list, []impl.Pair{m.p}), m.pairAnswers(),
	}
}

func rightModelArgs() []modelArgs {
	var all []modelArgs
	for dims := int64(2); dims <= 3; dims++ {
		for _, n := range []int{0, 1, 2, 9, 59, 60} {
			for _, q := range append(rightQueries(dims), windowOf(utmostBox(dims)), insideOf(utmostBox(dims))) {
				for _, id := range []int64{0, 10, 11, 999} {
					all = append(all, modelArgs{somePairs(dims, n), dims, pairOf(id, rightBox(dims)), q})
				}
			}
		}
	}
	return all
}

func wrongModelArgs() []modelArgs {
	var all []modelArgs
	good := pairOf(1, flat(0, 0, 1, 1))
	for _, c := range append(modelFaults(), modelFaultsAtOnce()...) {
		all = append(all, modelArgs{c.list, c.dims, good, pointAt(1, 1)})
	}
	for _, c := range append(queryFaults(), queryFaultsAtOnce()...) {
		all = append(all, modelArgs{somePairs(2, 3), c.dims, good, c.q})
	}
	for _, r := range []impl.Rect{{}, rectForm, rectMany, rectRange} {
		all = append(all, modelArgs{somePairs(2, 3), 2, pairOf(1, r), pointAt(1, 1)}, modelArgs{somePairs(2, 3), 2, pairOf(-1, r), nearTo(2, 1, 1)})
	}
	return all
}

func TestModelArgumentsStay(t *testing.T) {
	for _, m := range append(rightModelArgs(), wrongModelArgs()...) {
		s := m.spared()
		lists, ids := pictureOf(s.lists()), s.ids()
		s.answers()
		if !samePicture(pictureOf(s.lists()), lists) || !slices.Equal(s.ids(), ids) {
			t.Fatalf("an argument was changed: %v", m)
		}
	}
}

// Asked again and again, with arguments that live elsewhere: no answer hangs
// on what was asked ahead, or on the order in which a map tells its keys.
func TestModelAnswersHangOnArgumentsAlone(t *testing.T) {
	for _, m := range append(rightModelArgs(), wrongModelArgs()...) {
		first := m.answers()
		for range 3 {
			if again := m.spared().answers(); !reflect.DeepEqual(again, first) {
				t.Fatalf("%v: first %v, then %v", m, first, again)
			}
		}
	}
}

// scribble writes all that an answer can reach.
func scribble(pairs []impl.Pair) {
	for _, list := range listsOf(pairs) {
		fill(list, 41)
	}
	all := pairs[:cap(pairs)]
	for i := range all {
		all[i] = impl.Pair{Id: 42}
	}
}

func TestModelAnswersShareNothingWithArguments(t *testing.T) {
	for _, m := range rightModelArgs() {
		s := m.spared()
		lists, ids := pictureOf(s.lists()), s.ids()
		for _, answer := range s.pairAnswers() {
			scribble(answer.Pairs)
		}
		if !samePicture(pictureOf(s.lists()), lists) || !slices.Equal(s.ids(), ids) {
			t.Fatalf("who writes an answer writes an argument: %v", m)
		}
		answers, want := s.pairAnswers(), m.pairAnswers()
		for _, list := range s.lists() {
			fill(list, 43)
		}
		for i := range s.list {
			s.list[i] = impl.Pair{Id: 44}
		}
		if !reflect.DeepEqual(answers, want) {
			t.Fatalf("who writes an argument writes an answer: %v", m)
		}
	}
}

// Each list of all answers gets a number of its own; where two share memory,
// the first of them has lost it.
func TestListsOfModelAnswersShareNothing(t *testing.T) {
	for _, m := range rightModelArgs() {
		var lists [][]int64
		for _, answer := range m.pairAnswers() {
			lists = append(lists, listsOf(answer.Pairs)...)
		}
		for i, list := range lists {
			fill(list, int64(i))
		}
		for i, list := range lists {
			if slices.ContainsFunc(whole(list), func(n int64) bool { return n != int64(i) }) {
				t.Fatalf("two lists share memory: %v", m)
			}
		}
	}
}

// One box in several arguments is no reason to share it in the answer.
func TestOneBoxInManyArguments(t *testing.T) {
	r := spareBox(flat(1, 2, 3, 4))
	list := []impl.Pair{pairOf(1, r), pairOf(2, r), pairOf(4, r)}
	same := impl.Rect{Low: r.Low, High: r.Low}
	was := copyWhole(r)
	for _, got := range [][]impl.Pair{
		impl.AddPair(list, 2, pairOf(3, r)).Pairs,
		impl.AddPair(list, 2, pairOf(3, same)).Pairs,
		impl.TakePair(list, 2, list[1]).Pairs,
		impl.AnswerOf(list, 2, windowOf(r)).Pairs,
		impl.AnswerOf(list, 2, insideOf(r)).Pairs,
		impl.AnswerOf(list, 2, pointAt(r.Low...)).Pairs,
		impl.AnswerOf(list, 2, nearTo(3, r.Low...)).Pairs,
	} {
		if len(got) < 2 {
			t.Fatalf("too few: %v", got)
		}
		for i, p := range got {
			fill(p.Rect.Low, int64(10*i))
			fill(p.Rect.High, int64(10*i+1))
		}
		for i, p := range got {
			if !slices.Equal(p.Rect.Low, []int64{int64(10 * i), int64(10 * i)}) || !slices.Equal(p.Rect.High, []int64{int64(10*i + 1), int64(10*i + 1)}) {
				t.Fatalf("two lists share memory: %v", got)
			}
		}
		if !sameWhole(r, was) {
			t.Fatalf("who writes an answer writes the argument: %v", r)
		}
	}
}
