package tests

import (
	"fmt"
	"slices"
	"testing"

	"loop.example/g00680/impl"
)

// entriesOf gives each box a Ref that is not its place, and a Nsn of its own.
func entriesOf(boxes ...impl.Rect) []impl.Entry {
	var list []impl.Entry
	for i, r := range boxes {
		list = append(list, entryOf(int64(90-7*i), int64(1000+i), r))
	}
	return list
}

// bars are boxes of the height 1 that begin and end at these numbers: their
// areas are their lengths.
func bars(ends ...[2]int64) []impl.Rect {
	var boxes []impl.Rect
	for _, e := range ends {
		boxes = append(boxes, flat(e[0], 0, e[1], 1))
	}
	return boxes
}

// placesIn are the places that the entries have in the list, each of them to
// be found there field by field.
func placesIn(t *testing.T, list []impl.Entry, some []impl.Entry) []int {
	t.Helper()
	var places []int
	for _, e := range some {
		i := slices.IndexFunc(list, func(other impl.Entry) bool { return likeEntry(e, other) })
		if i < 0 {
			t.Errorf("%v is not in %v", e, list)
		}
		places = append(places, i)
	}
	return places
}

func wantParts(t *testing.T, what string, list []impl.Entry, got impl.PartsResult, first []int, second []int) {
	t.Helper()
	if got.Code != impl.OK {
		t.Errorf("%s: %v", what, got)
	}
	if f, s := placesIn(t, list, got.First), placesIn(t, list, got.Second); !slices.Equal(f, first) || !slices.Equal(s, second) {
		t.Errorf("%s of %v: %v and %v, not %v and %v", what, list, f, s, first, second)
	}
}

func TestChooseEntry(t *testing.T) {
	cases := []struct {
		name  string
		boxes []impl.Rect
		r     impl.Rect
		want  int64
	}{
		{"one alone", []impl.Rect{flat(0, 0, 1, 1)}, flat(900, 900, 1000, 1000), 0},
		{"the least growth", []impl.Rect{flat(0, 0, 1, 1), flat(4, 0, 6, 1), flat(9, 0, 10, 1)}, flat(6, 0, 7, 1), 1},
		{"the least growth, the area the greatest", []impl.Rect{flat(20, 0, 21, 1), flat(0, 0, 10, 10)}, flat(5, 5, 6, 6), 1},
		{"the least growth is last", bars([2]int64{0, 1}, [2]int64{2, 3}, [2]int64{4, 5}, [2]int64{6, 7}, [2]int64{8, 9}, [2]int64{10, 11}, [2]int64{12, 13}, [2]int64{14, 15}), flat(20, 0, 21, 1), 7},
		{"no growth, and areas tell", []impl.Rect{flat(0, 0, 4, 4), flat(0, 0, 2, 2), flat(0, 0, 3, 3)}, flat(1, 1, 2, 2), 1},
		{"growths alike, and areas tell", bars([2]int64{0, 2}, [2]int64{3, 4}), flat(2, 0, 3, 1), 1},
		{"growths alike, and areas tell, the other way round", bars([2]int64{0, 1}, [2]int64{2, 4}), flat(1, 0, 2, 1), 0},
		{"the lesser area, and the greater growth", []impl.Rect{flat(0, 0, 5, 5), flat(6, 0, 7, 1)}, flat(5, 0, 6, 2), 1},
		{"the greater area, and the lesser growth", []impl.Rect{flat(9, 0, 10, 1), flat(0, 0, 5, 5)}, flat(5, 0, 6, 5), 1},
		{"both alike", []impl.Rect{flat(0, 0, 2, 2), flat(1, 1, 3, 3)}, flat(1, 1, 2, 2), 0},
		{"both alike, of the second and the third", []impl.Rect{flat(0, 0, 9, 9), flat(1, 1, 3, 3), flat(0, 0, 2, 2)}, flat(1, 1, 2, 2), 1},
		{"one box three times", []impl.Rect{flat(0, 0, 2, 2), flat(0, 0, 2, 2), flat(0, 0, 2, 2)}, flat(5, 5, 6, 6), 0},
		{"a box without area that grows to none", []impl.Rect{flat(3, 3, 3, 3), flat(0, 0, 0, 5)}, flat(0, 6, 0, 7), 1},
		{"points alike", []impl.Rect{flat(2, 2, 2, 2), flat(1, 1, 1, 1)}, flat(0, 5, 0, 5), 1},
		{"a point on the border", []impl.Rect{flat(0, 0, 2, 2), flat(2, 0, 3, 3)}, flat(2, 1, 2, 1), 1},
		{"a border that touches", []impl.Rect{flat(4, 0, 5, 2), flat(0, 0, 2, 2)}, flat(2, 0, 3, 2), 1},
		{"in depth", []impl.Rect{solid(0, 0, 0, 2, 2, 2), solid(0, 0, 5, 2, 2, 7)}, solid(0, 0, 7, 2, 2, 8), 1},
		{"in depth, and areas tell", []impl.Rect{solid(0, 0, 0, 2, 2, 4), solid(0, 0, 0, 2, 2, 3)}, solid(1, 1, 1, 2, 2, 2), 1},
		{"at the bounds", []impl.Rect{utmostBox(3), solid(-1000, -1000, -1000, 1000, 1000, 999)}, utmostBox(3), 0},
		{"at the bounds, inside", []impl.Rect{utmostBox(3), solid(-1000, -1000, -1000, 1000, 1000, 999)}, rightBox(3), 1},
	}
	for _, c := range cases {
		t.Run(c.name, func(t *testing.T) {
			list, dims := entriesOf(c.boxes...), int64(len(c.r.Low))
			sameInt(t, "ChooseEntry", impl.ChooseEntry(list, dims, c.r), c.want)
		})
	}
}

func TestSeedsOf(t *testing.T) {
	corners := []impl.Rect{flat(0, 0, 1, 1), flat(9, 0, 10, 1), flat(0, 9, 1, 10), flat(9, 9, 10, 10)}
	same := flat(0, 0, 4, 4)
	cases := []struct {
		name          string
		boxes         []impl.Rect
		ahead, behind int64
	}{
		{"the farthest two of four", bars([2]int64{4, 5}, [2]int64{0, 1}, [2]int64{6, 7}, [2]int64{10, 11}), 1, 3},
		{"the farthest two, the other way round", bars([2]int64{10, 11}, [2]int64{4, 5}, [2]int64{0, 1}, [2]int64{6, 7}), 0, 2},
		{"the last two of eight", bars([2]int64{4, 5}, [2]int64{5, 6}, [2]int64{4, 5}, [2]int64{5, 6}, [2]int64{4, 5}, [2]int64{5, 6}, [2]int64{9, 10}, [2]int64{0, 1}), 6, 7},
		{"their own areas are not wasted", bars([2]int64{0, 9}, [2]int64{10, 20}, [2]int64{0, 1}, [2]int64{5, 6}), 1, 2},
		{"two diagonals alike", corners, 0, 3},
		{"two diagonals alike, the second one begins", []impl.Rect{corners[0], corners[1], corners[3], corners[2]}, 0, 2},
		{"with one of two alike", []impl.Rect{flat(0, 0, 0, 0), flat(1, 1, 1, 1), flat(4, 2, 4, 2), flat(2, 4, 2, 4)}, 0, 2},
		{"two begin alike", bars([2]int64{5, 6}, [2]int64{0, 1}, [2]int64{0, 1}, [2]int64{9, 10}), 1, 3},
		{"less than nothing, all alike", []impl.Rect{same, same, same, same, same}, 0, 1},
		{"less than nothing, the small one wastes most", []impl.Rect{same, same, same, flat(1, 1, 2, 2)}, 0, 3},
		{"less than nothing, the last two", []impl.Rect{flat(0, 0, 8, 8), flat(0, 0, 9, 9), flat(1, 1, 4, 4), flat(2, 2, 5, 5)}, 2, 3},
		{"nothing, between less than nothing", []impl.Rect{same, same, flat(4, 0, 8, 4), flat(4, 0, 8, 4)}, 0, 2},
		{"points alike", []impl.Rect{flat(1, 1, 1, 1), flat(1, 1, 1, 1), flat(1, 1, 1, 1), flat(1, 1, 1, 1)}, 0, 1},
		{"points on a line", []impl.Rect{flat(0, 3, 0, 3), flat(9, 3, 9, 3), flat(0, 3, 5, 3), flat(0, 3, 0, 3)}, 0, 1},
		{"boxes without area", []impl.Rect{flat(0, 0, 0, 3), flat(1, 0, 1, 3), flat(0, 0, 3, 0), flat(5, 0, 5, 3)}, 0, 3},
		{"in depth", []impl.Rect{solid(0, 0, 0, 1, 1, 1), solid(0, 0, 3, 1, 1, 4), solid(0, 0, 1, 1, 1, 2), solid(0, 0, 8, 1, 1, 9)}, 0, 3},
		{"in depth alone", []impl.Rect{solid(0, 0, 5, 1, 1, 6), solid(0, 0, 0, 1, 1, 1), solid(0, 0, 9, 1, 1, 10), solid(0, 0, 4, 1, 1, 5)}, 1, 2},
		{"at the bounds", []impl.Rect{utmostBox(3), utmostBox(3), solid(-1000, -1000, -1000, -1000, -1000, -1000), solid(1000, 1000, 1000, 1000, 1000, 1000)}, 2, 3},
	}
	for _, c := range cases {
		t.Run(c.name, func(t *testing.T) {
			got := impl.SeedsOf(entriesOf(c.boxes...), int64(len(c.boxes[0].Low)))
			if got.Code != impl.OK || !slices.Equal(got.List, []int64{c.ahead, c.behind}) {
				t.Errorf("%v, not %d and %d", got, c.ahead, c.behind)
			}
		})
	}
}

// splitCase tells both sides by the places that the entries had.
type splitCase struct {
	name   string
	boxes  []impl.Rect
	first  []int
	second []int
}

func quadCases() []splitCase {
	same := flat(0, 0, 4, 4)
	a, b, middle := [2]int64{0, 1}, [2]int64{10, 11}, [2]int64{5, 6}
	return []splitCase{
		{"First lacks entries", bars(a, b, [2]int64{9, 10}, [2]int64{8, 9}), []int{0, 3}, []int{1, 2}},
		{"First lacks entries, of five", bars(a, [2]int64{8, 9}, [2]int64{9, 10}, [2]int64{7, 8}, b), []int{0, 3}, []int{1, 2, 4}},
		{"First lacks the last of eight", bars(b, [2]int64{3, 4}, a, a, [2]int64{1, 2}, a, a, [2]int64{2, 3}), []int{0, 1}, []int{2, 3, 4, 5, 6, 7}},
		{"Second lacks entries", bars(a, [2]int64{1, 2}, [2]int64{2, 3}, b), []int{0, 1}, []int{2, 3}},
		{"Second lacks entries, of five", bars([2]int64{2, 3}, a, b, [2]int64{1, 2}, [2]int64{3, 4}), []int{0, 1, 3}, []int{2, 4}},
		{"Second lacks the last of eight", bars([2]int64{3, 4}, a, a, [2]int64{1, 2}, a, a, b, [2]int64{2, 3}), []int{1, 2, 3, 4, 5, 7}, []int{0, 6}},
		{"the lesser area is Second's", bars([2]int64{0, 2}, [2]int64{9, 10}, middle, middle), []int{0, 3}, []int{1, 2}},
		{"the lesser area is First's", bars(a, [2]int64{8, 10}, [2]int64{4, 5}, [2]int64{4, 5}), []int{0, 2}, []int{1, 3}},
		{"Second has fewer", bars(a, a, b, middle, middle), []int{0, 1}, []int{2, 3, 4}},
		{"First has fewer", bars(a, b, b, middle, middle), []int{0, 3, 4}, []int{1, 2}},
		{"the lesser area ahead of fewer", bars([2]int64{0, 0}, [2]int64{0, 0}, [2]int64{0, 0}, [2]int64{11, 12}, [2]int64{5, 6}, [2]int64{5, 6}), []int{0, 1, 2, 4}, []int{3, 5}},
		{"all alike", bars(a, b, middle, middle), []int{0, 2}, []int{1, 3}},
		{"one box eight times", []impl.Rect{same, same, same, same, same, same, same, same}, []int{0, 2, 4, 6}, []int{1, 3, 5, 7}},
		{"one box five times", []impl.Rect{same, same, same, same, same}, []int{0, 2, 4}, []int{1, 3}},
		{"one point four times", []impl.Rect{flat(2, 2, 2, 2), flat(2, 2, 2, 2), flat(2, 2, 2, 2), flat(2, 2, 2, 2)}, []int{0, 2}, []int{1, 3}},
		{"two differ alike", bars(a, b, [2]int64{8, 9}, [2]int64{8, 9}), []int{0, 3}, []int{1, 2}},
		{"two differ alike, ahead of the seeds", bars([2]int64{8, 9}, [2]int64{8, 9}, a, b), []int{1, 2}, []int{0, 3}},
		{"two differ alike, to either side", bars(a, b, [2]int64{2, 3}, [2]int64{8, 9}, middle), []int{0, 2, 4}, []int{1, 3}},
		{"most differs what is nearer to First", bars(a, b, [2]int64{7, 8}, [2]int64{2, 3}, middle), []int{0, 3}, []int{1, 2, 4}},
		{"who comes first changes the boxes", bars([2]int64{0, 1}, [2]int64{20, 21}, [2]int64{8, 9}, [2]int64{4, 5}, [2]int64{11, 12}, [2]int64{12, 13}), []int{0, 2, 3, 4}, []int{1, 5}},
		{"borders that touch", bars([2]int64{0, 2}, [2]int64{2, 4}, [2]int64{4, 6}, [2]int64{6, 8}), []int{0, 1}, []int{2, 3}},
		{"lines", []impl.Rect{flat(0, 0, 0, 9), flat(0, 0, 9, 0), flat(9, 0, 9, 9), flat(0, 9, 9, 9)}, []int{0, 2}, []int{1, 3}},
		{"in depth", []impl.Rect{solid(0, 0, 9, 1, 1, 10), solid(0, 0, 0, 1, 1, 1), solid(0, 0, 1, 1, 1, 2), solid(0, 0, 8, 1, 1, 9), solid(0, 0, 2, 1, 1, 3)}, []int{0, 3}, []int{1, 2, 4}},
	}
}

// saySplit asks for the parts by the style and by its own function.
func saySplit(t *testing.T, cases []splitCase, style int64, split func(list []impl.Entry, dims int64) impl.PartsResult) {
	t.Helper()
	for _, c := range cases {
		t.Run(c.name, func(t *testing.T) {
			list, dims := entriesOf(c.boxes...), int64(len(c.boxes[0].Low))
			wantParts(t, "the split", list, split(list, dims), c.first, c.second)
			wantParts(t, "SplitBy", list, impl.SplitBy(style, list, dims), c.first, c.second)
		})
	}
}

func TestSplitQuad(t *testing.T) {
	saySplit(t, quadCases(), impl.StyleQuad, impl.SplitQuad)
}

// eachOrder tells all orders of as many things, by their places.
func eachOrder(count int, tell func(order []int)) {
	order := make([]int, 0, count)
	var more func()
	more = func() {
		if len(order) == count {
			tell(order)
		}
		for i := range count {
			if !slices.Contains(order, i) {
				order = append(order, i)
				more()
				order = order[:len(order)-1]
			}
		}
	}
	more()
}

// Two heaps that nobody could part otherwise: in whatever order they stand,
// First is the heap whose seed stands ahead, and both keep their order.
func TestHeapsInAnyOrder(t *testing.T) {
	heaps := []impl.Rect{flat(0, 0, 1, 1), flat(1, 1, 2, 2), flat(3, 3, 4, 4), flat(80, 80, 81, 81), flat(82, 82, 83, 83), flat(90, 90, 91, 91)}
	seeds := []int{0, 5}
	eachOrder(len(heaps), func(order []int) {
		var boxes []impl.Rect
		var low, high []int
		for place, i := range order {
			boxes = append(boxes, heaps[i])
			if i < 3 {
				low = append(low, place)
			} else {
				high = append(high, place)
			}
		}
		list := entriesOf(boxes...)
		wantParts(t, fmt.Sprint("SplitStar ", order), list, inStandingOrder(list, impl.SplitStar(list, 2)), low, high)
		if slices.Index(order, seeds[0]) > slices.Index(order, seeds[1]) {
			low, high = high, low
		}
		wantParts(t, fmt.Sprint("SplitQuad ", order), list, impl.SplitQuad(list, 2), low, high)
	})
}

// inStandingOrder takes away the order along the axis, which SplitStar keeps.
func inStandingOrder(list []impl.Entry, p impl.PartsResult) impl.PartsResult {
	place := func(e impl.Entry) int {
		return slices.IndexFunc(list, func(other impl.Entry) bool { return other.Ref == e.Ref })
	}
	for _, side := range [][]impl.Entry{p.First, p.Second} {
		slices.SortFunc(side, func(a impl.Entry, b impl.Entry) int { return place(a) - place(b) })
	}
	return p
}
