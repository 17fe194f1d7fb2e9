package tests

import (
	"reflect"
	"slices"
	"testing"

	"loop.example/g00680/impl"
)

// spare is room behind an argument's list that a careless append would write.
const spare = int64(-777)

// withSpare lays the list into memory of its own, with room behind it.
func withSpare(list []int64) []int64 {
	if list == nil {
		return nil
	}
	room := append(slices.Clone(list), spare, spare, spare, spare)
	return room[:len(list)]
}

func spareBox(r impl.Rect) impl.Rect {
	return impl.Rect{Low: withSpare(r.Low), High: withSpare(r.High)}
}

// whole is all that a list can reach, with what is behind its end.
func whole(list []int64) []int64 {
	return list[:cap(list)]
}

func sameWhole(a impl.Rect, b impl.Rect) bool {
	return slices.Equal(whole(a.Low), whole(b.Low)) && slices.Equal(whole(a.High), whole(b.High))
}

// copyWhole takes a picture of a box made by spareBox.
func copyWhole(r impl.Rect) impl.Rect {
	return impl.Rect{Low: slices.Clip(slices.Clone(whole(r.Low))), High: slices.Clip(slices.Clone(whole(r.High)))}
}

func memoryBoxes() []impl.Rect {
	list := []impl.Rect{
		flat(0, 0, 2, 2), flat(5, 1, 6, 3), flat(1, 1, 1, 1), flat(-1000, -1000, 1000, 1000),
		solid(0, 0, 0, 4, 4, 4), solid(1, 2, 3, 5, 6, 7), solid(1, 1, 1, 1, 1, 1),
	}
	for _, c := range append(ownFaults(), otherFaults()...) {
		list = append(list, c.r)
	}
	return list
}

// boxAnswers are the answers of all functions of chapter 1.
func boxAnswers(a impl.Rect, b impl.Rect, p []int64) []any {
	dims := int64(len(a.Low))
	return []any{
		impl.PointFault(p, dims), impl.RectFault(a, dims), impl.UnionOf(a, b), impl.Meets(a, b), impl.Covers(a, b),
		impl.AreaOf(a), impl.MarginOf(a), impl.OverlapOf(a, b), impl.GrowthOf(a, b), impl.DistOf(a, p), impl.SameRects(a, b),
	}
}

func TestBoxArgumentsStay(t *testing.T) {
	for _, first := range memoryBoxes() {
		for _, second := range memoryBoxes() {
			a, b, p := spareBox(first), spareBox(second), withSpare(second.Low)
			wasA, wasB, wasP := copyWhole(a), copyWhole(b), slices.Clone(whole(p))
			boxAnswers(a, b, p)
			if !sameWhole(a, wasA) || !sameWhole(b, wasB) || !slices.Equal(whole(p), wasP) {
				t.Fatalf("an argument was changed: %v, %v, %v", first, second, second.Low)
			}
		}
	}
}

// What is answered hangs on the arguments alone: not on what was asked ahead,
// on where the arguments live, or on the room behind them.
func TestBoxAnswersHangOnArgumentsAlone(t *testing.T) {
	list := memoryBoxes()
	var first [][]any
	for _, a := range list {
		for _, b := range list {
			first = append(first, boxAnswers(a, b, b.High))
		}
	}
	for i := len(first) - 1; i >= 0; i-- {
		a, b := list[i/len(list)], list[i%len(list)]
		again := boxAnswers(spareBox(a), spareBox(b), withSpare(b.High))
		if !reflect.DeepEqual(again, first[i]) {
			t.Fatalf("%v and %v: first %v, then %v", a, b, first[i], again)
		}
	}
}

func TestEmptyAndNilAreTheSame(t *testing.T) {
	for _, c := range memoryBoxes() {
		full := func(list []int64) []int64 {
			if list == nil {
				return []int64{}
			}
			return list
		}
		r := impl.Rect{Low: full(c.Low), High: full(c.High)}
		if !impl.SameRects(c, r) {
			t.Fatalf("SameRects %v", c)
		}
		for _, other := range memoryBoxes() {
			if !reflect.DeepEqual(boxAnswers(c, other, c.Low), boxAnswers(r, other, r.Low)) {
				t.Fatalf("first %v, then %v", c, other)
			}
			if !reflect.DeepEqual(boxAnswers(other, c, c.Low), boxAnswers(other, r, r.Low)) {
				t.Fatalf("first %v, then %v", other, c)
			}
		}
	}
}

func fill(list []int64, n int64) {
	all := whole(list)
	for i := range all {
		all[i] = n
	}
}

func unionPairs() [][2]impl.Rect {
	var list [][2]impl.Rect
	for _, c := range boxCases() {
		list = append(list, [2]impl.Rect{c.a, c.b})
	}
	return list
}

func TestUnionSharesNothingWithArguments(t *testing.T) {
	for _, pair := range unionPairs() {
		a, b := spareBox(pair[0]), spareBox(pair[1])
		wasA, wasB := copyWhole(a), copyWhole(b)
		u := impl.UnionOf(a, b).Rect
		want := copyWhole(u)
		fill(u.Low, 41)
		fill(u.High, 42)
		if !sameWhole(a, wasA) || !sameWhole(b, wasB) {
			t.Fatalf("who writes the union of %v and %v writes an argument", pair[0], pair[1])
		}
		u = impl.UnionOf(a, b).Rect
		for _, list := range [][]int64{a.Low, a.High, b.Low, b.High} {
			fill(list, 43)
		}
		if !impl.SameRects(u, impl.Rect{Low: want.Low[:len(u.Low)], High: want.High[:len(u.High)]}) {
			t.Fatalf("who writes %v or %v writes their union", pair[0], pair[1])
		}
	}
}

func TestUnionOfOneBoxSharesNothing(t *testing.T) {
	a := spareBox(solid(1, 2, 3, 4, 5, 6))
	was := copyWhole(a)
	u := impl.UnionOf(a, a).Rect
	fill(u.Low, 41)
	fill(u.High, 42)
	if !sameWhole(a, was) {
		t.Fatal("who writes the union of a box and itself writes the box")
	}
}

func TestListsOfUnionShareNothing(t *testing.T) {
	for _, pair := range unionPairs() {
		u := impl.UnionOf(pair[0], pair[1]).Rect
		high := slices.Clone(whole(u.High))
		fill(u.Low, 41)
		if !slices.Equal(whole(u.High), high) {
			t.Fatalf("who writes Low of the union of %v and %v writes High", pair[0], pair[1])
		}
		low := slices.Clone(whole(u.Low))
		fill(u.High, 42)
		if !slices.Equal(whole(u.Low), low) {
			t.Fatalf("who writes High of the union of %v and %v writes Low", pair[0], pair[1])
		}
	}
}

func TestUnionsShareNothing(t *testing.T) {
	a, b := flat(0, 0, 2, 2), flat(5, 1, 6, 3)
	first := impl.UnionOf(a, b).Rect
	second := impl.UnionOf(a, b).Rect
	fill(first.Low, 41)
	fill(first.High, 42)
	if !impl.SameRects(second, flat(0, 0, 6, 3)) || !impl.SameRects(impl.UnionOf(a, b).Rect, flat(0, 0, 6, 3)) {
		t.Fatal("who writes one answer writes another one")
	}
}
