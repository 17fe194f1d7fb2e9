package tests

import (
	"fmt"
	"slices"
	"testing"

	"loop.example/g00680/impl"
)

func wantOrder(t *testing.T, list []impl.Entry, got impl.EntriesResult, want []int) {
	t.Helper()
	if places := placesIn(t, list, got.Entries); got.Code != impl.OK || !slices.Equal(places, want) {
		t.Errorf("SortAxis of %v: %v, not %v", list, got, want)
	}
}

func TestSortAxis(t *testing.T) {
	wide := []impl.Rect{flat(5, 0, 6, 3), flat(2, 1, 9, 2), flat(5, 0, 5, 9), flat(-3, 1, 4, 1), flat(5, 0, 6, 2)}
	deep := []impl.Rect{solid(5, 0, 4, 6, 3, 7), solid(2, 1, 4, 9, 2, 4), solid(5, 0, -4, 5, 9, 0), solid(-3, 1, 4, 4, 1, 7), solid(5, 0, 0, 6, 2, 1)}
	cases := []struct {
		name  string
		boxes []impl.Rect
		axis  int64
		want  []int
	}{
		{"the first axis, Lows alike and both alike", wide, 0, []int{3, 1, 2, 0, 4}},
		{"the second axis, Lows alike", wide, 1, []int{4, 0, 2, 3, 1}},
		{"the first axis of three", deep, 0, []int{3, 1, 2, 0, 4}},
		{"the second axis of three", deep, 1, []int{4, 0, 2, 3, 1}},
		{"the third axis of three", deep, 2, []int{2, 4, 1, 0, 3}},
		{"one entry", wide[:1], 1, []int{0}},
		{"two that are turned", []impl.Rect{flat(1, 1, 2, 2), flat(0, 0, 9, 9)}, 0, []int{1, 0}},
		{"the lesser High behind the lesser Low", []impl.Rect{flat(1, 0, 1, 0), flat(0, 0, 9, 9)}, 0, []int{1, 0}},
		{"one box in all of eight", slices.Repeat([]impl.Rect{flat(1, 2, 3, 4)}, 8), 1, []int{0, 1, 2, 3, 4, 5, 6, 7}},
		{"two boxes in all of eight", slices.Repeat([]impl.Rect{flat(1, 2, 3, 4), flat(1, 2, 3, 3)}, 4), 1, []int{1, 3, 5, 7, 0, 2, 4, 6}},
		{"the other axis tells nothing", []impl.Rect{flat(0, 9, 1, 9), flat(0, 0, 1, 3), flat(0, 4, 1, 5)}, 0, []int{0, 1, 2}},
		{"at the bounds", []impl.Rect{flat(1000, 0, 1000, 0), utmostBox(2), flat(-1000, 0, 999, 0)}, 0, []int{2, 1, 0}},
	}
	for _, c := range cases {
		t.Run(c.name, func(t *testing.T) {
			list, dims := entriesOf(c.boxes...), int64(len(c.boxes[0].Low))
			wantOrder(t, list, impl.SortAxis(list, dims, c.axis), c.want)
		})
	}
	for dims := int64(2); dims <= 3; dims++ {
		for axis := range dims {
			wantOrder(t, nil, impl.SortAxis(nil, dims, axis), nil)
			wantOrder(t, nil, impl.SortAxis([]impl.Entry{}, dims, axis), nil)
		}
	}
}

// towers are bars that stand on end.
func towers(ends ...[2]int64) []impl.Rect {
	boxes := bars(ends...)
	for i, r := range boxes {
		boxes[i] = flat(r.Low[1], r.Low[0], r.High[1], r.High[0])
	}
	return boxes
}

func TestAxisOf(t *testing.T) {
	far := [][2]int64{{0, 1}, {9, 10}, {3, 4}, {6, 7}}
	near := [][2]int64{{0, 1}, {3, 4}, {6, 7}, {9, 10}}
	cases := []struct {
		name  string
		boxes []impl.Rect
		want  int64
	}{
		{"along the first axis", bars(far...), 0},
		{"along the second axis", towers(far...), 1},
		{"as they stand along the first axis", bars(near...), 0},
		{"sums alike", towers(near...), 0},
		{"sums alike, with one box four times", slices.Repeat([]impl.Rect{flat(0, 0, 3, 1)}, 4), 0},
		{"sums alike, with one point eight times", slices.Repeat([]impl.Rect{flat(3, 4, 3, 4)}, 8), 0},
		{"points on a line", []impl.Rect{flat(0, 0, 0, 0), flat(0, 9, 0, 9), flat(0, 3, 0, 3), flat(0, 6, 0, 6)}, 1},
		{"sums alike on both diagonals", []impl.Rect{flat(0, 0, 1, 1), flat(9, 9, 10, 10), flat(3, 3, 4, 4), flat(6, 6, 7, 7)}, 0},
		{"the second and the third alike", []impl.Rect{solid(0, 0, 0, 1, 1, 1), solid(0, 9, 9, 1, 10, 10), solid(0, 3, 3, 1, 4, 4), solid(0, 6, 6, 1, 7, 7)}, 1},
		{"the first and the third alike", []impl.Rect{solid(0, 0, 0, 1, 1, 1), solid(9, 0, 9, 10, 1, 10), solid(3, 0, 3, 4, 1, 4), solid(6, 0, 6, 7, 1, 7)}, 0},
		{"along the third axis", []impl.Rect{solid(0, 0, 0, 1, 1, 1), solid(0, 0, 9, 1, 1, 10), solid(0, 0, 3, 1, 1, 4), solid(0, 0, 6, 1, 1, 7)}, 2},
	}
	for _, c := range cases {
		t.Run(c.name, func(t *testing.T) {
			sameInt(t, "AxisOf", impl.AxisOf(entriesOf(c.boxes...), int64(len(c.boxes[0].Low))), c.want)
		})
	}
}

// Five entries have two cuts, and one of them alone would tell the other axis.
// Along the first axis the margins are 30 and 22, along the second 22 and 32.
func steps() []impl.Rect {
	return []impl.Rect{flat(0, 0, 1, 10), flat(5, 0, 6, 10), flat(5, 0, 10, 1), flat(4, 0, 5, 10), flat(6, 0, 10, 1)}
}

func TestAxisOfAllCuts(t *testing.T) {
	sameInt(t, "AxisOf", impl.AxisOf(entriesOf(steps()...), 2), 0)
}

func starCases() []splitCase {
	even := [][2]int64{{0, 1}, {2, 3}, {4, 5}, {6, 7}, {8, 9}, {10, 11}, {12, 13}, {14, 15}}
	gapAt := func(place int) [][2]int64 {
		ends := slices.Clone(even)
		for i := place; i < len(ends); i++ {
			ends[i] = [2]int64{ends[i][0] + 100, ends[i][1] + 100}
		}
		return ends
	}
	backwards := slices.Clone(even[:5])
	slices.Reverse(backwards)
	return []splitCase{
		{"overlaps tell, ahead of areas", steps(), []int{0, 3}, []int{1, 2, 4}},
		{"overlaps alike, and areas tell", bars([2]int64{0, 1}, [2]int64{2, 3}, [2]int64{4, 5}, [2]int64{10, 11}, [2]int64{12, 13}), []int{0, 1, 2}, []int{3, 4}},
		{"overlaps alike, and areas tell, the other cut", bars([2]int64{0, 1}, [2]int64{2, 3}, [2]int64{8, 9}, [2]int64{10, 11}, [2]int64{12, 13}), []int{0, 1}, []int{2, 3, 4}},
		{"both alike", bars(even[:5]...), []int{0, 1}, []int{2, 3, 4}},
		{"both alike, of eight", bars(even...), []int{0, 1}, []int{2, 3, 4, 5, 6, 7}},
		{"both alike, with one box six times", slices.Repeat([]impl.Rect{flat(0, 0, 3, 3)}, 6), []int{0, 1}, []int{2, 3, 4, 5}},
		{"both alike, with one point four times", slices.Repeat([]impl.Rect{flat(2, 2, 2, 2)}, 4), []int{0, 1}, []int{2, 3}},
		{"backwards", bars(backwards...), []int{4, 3}, []int{2, 1, 0}},
		{"backwards, along the second axis", towers([2]int64{9, 10}, [2]int64{0, 1}, [2]int64{6, 7}, [2]int64{3, 4}), []int{1, 3}, []int{2, 0}},
		{"too few ahead of the gap", bars(gapAt(1)...), []int{0, 1}, []int{2, 3, 4, 5, 6, 7}},
		{"the first cut", bars(gapAt(2)...), []int{0, 1}, []int{2, 3, 4, 5, 6, 7}},
		{"a cut between", bars(gapAt(4)...), []int{0, 1, 2, 3}, []int{4, 5, 6, 7}},
		{"the last cut", bars(gapAt(6)...), []int{0, 1, 2, 3, 4, 5}, []int{6, 7}},
		{"too few behind the gap", bars(gapAt(7)...), []int{0, 1}, []int{2, 3, 4, 5, 6, 7}},
		{"four have one cut", bars([2]int64{0, 1}, [2]int64{50, 51}, [2]int64{52, 53}, [2]int64{54, 55}), []int{0, 1}, []int{2, 3}},
		{"borders that touch", bars([2]int64{2, 4}, [2]int64{6, 8}, [2]int64{0, 2}, [2]int64{4, 6}), []int{2, 0}, []int{3, 1}},
		{"points", []impl.Rect{flat(0, 0, 0, 0), flat(0, 9, 0, 9), flat(0, 3, 0, 3), flat(0, 6, 0, 6)}, []int{0, 2}, []int{3, 1}},
		{"in depth", []impl.Rect{solid(0, 0, 9, 1, 1, 10), solid(0, 0, 0, 1, 1, 1), solid(0, 0, 6, 1, 1, 7), solid(0, 0, 3, 1, 1, 4)}, []int{1, 3}, []int{2, 0}},
	}
}

func TestSplitStar(t *testing.T) {
	saySplit(t, starCases(), impl.StyleStar, impl.SplitStar)
}

// The document says of both styles what they do, and they do not do the same.
func TestStylesAreTwo(t *testing.T) {
	list := entriesOf(bars([2]int64{0, 1}, [2]int64{2, 3}, [2]int64{4, 5}, [2]int64{6, 7}, [2]int64{8, 9})...)
	wantParts(t, "StyleQuad", list, impl.SplitBy(0, list, 2), []int{0, 1, 2}, []int{3, 4})
	wantParts(t, "StyleStar", list, impl.SplitBy(1, list, 2), []int{0, 1}, []int{2, 3, 4})
}

// The same boxes along each axis in turn.
func TestAxesTurnedAbout(t *testing.T) {
	for axis := range 3 {
		var boxes []impl.Rect
		for _, at := range []int64{40, 0, 60, 20, 80} {
			r := solid(0, 0, 0, 1, 1, 1)
			r.Low[axis], r.High[axis] = at, at+1
			boxes = append(boxes, r)
		}
		list := entriesOf(boxes...)
		sameInt(t, fmt.Sprint("AxisOf ", axis), impl.AxisOf(list, 3), int64(axis))
		wantParts(t, fmt.Sprint("SplitStar ", axis), list, impl.SplitStar(list, 3), []int{1, 3}, []int{0, 2, 4})
		wantParts(t, fmt.Sprint("SplitQuad ", axis), list, impl.SplitQuad(list, 3), []int{1, 3}, []int{0, 2, 4})
	}
}
