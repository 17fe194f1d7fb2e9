package tests

import (
	"testing"

	"loop.example/g00680/impl"
)

func flat(a int64, b int64, c int64, d int64) impl.Rect {
	return impl.Rect{Low: []int64{a, b}, High: []int64{c, d}}
}

func solid(a int64, b int64, c int64, d int64, e int64, f int64) impl.Rect {
	return impl.Rect{Low: []int64{a, b, c}, High: []int64{d, e, f}}
}

// boxCase tells all that chapter 1 says of two boxes without a fault.
type boxCase struct {
	name    string
	a, b    impl.Rect
	union   impl.Rect
	meets   bool
	covers  bool
	areaA   int64
	marginA int64
	overlap int64
	growth  int64
}

func boxCases() []boxCase {
	return []boxCase{
		{"apart", flat(0, 0, 2, 2), flat(5, 1, 6, 3), flat(0, 0, 6, 3), false, false, 4, 4, 0, 14},
		{"apart along one axis", flat(0, 0, 2, 2), flat(0, 3, 2, 4), flat(0, 0, 2, 4), false, false, 4, 4, 0, 4},
		{"crossing", flat(0, 0, 4, 4), flat(2, 2, 6, 6), flat(0, 0, 6, 6), true, false, 16, 8, 4, 20},
		{"within", flat(-5, -5, 5, 5), flat(-1, -2, 3, 4), flat(-5, -5, 5, 5), true, true, 100, 20, 24, 0},
		{"around", flat(-1, -2, 3, 4), flat(-5, -5, 5, 5), flat(-5, -5, 5, 5), true, false, 24, 10, 24, 76},
		{"the same", flat(1, 2, 3, 5), flat(1, 2, 3, 5), flat(1, 2, 3, 5), true, true, 6, 5, 6, 0},
		{"within, at the border", flat(0, 0, 4, 4), flat(0, 2, 2, 4), flat(0, 0, 4, 4), true, true, 16, 8, 4, 0},
		{"sides touch", flat(0, 0, 2, 2), flat(2, 0, 4, 2), flat(0, 0, 4, 2), true, false, 4, 4, 0, 4},
		{"sides touch from the left", flat(2, 0, 4, 2), flat(0, 0, 2, 2), flat(0, 0, 4, 2), true, false, 4, 4, 0, 4},
		{"corners touch", flat(0, 0, 2, 2), flat(2, 2, 3, 3), flat(0, 0, 3, 3), true, false, 4, 4, 0, 5},
		{"corners one apart", flat(0, 0, 2, 2), flat(3, 3, 4, 4), flat(0, 0, 4, 4), false, false, 4, 4, 0, 12},
		{"a point inside", flat(0, 0, 2, 2), flat(1, 1, 1, 1), flat(0, 0, 2, 2), true, true, 4, 4, 0, 0},
		{"a point on the border", flat(0, 0, 2, 2), flat(2, 1, 2, 1), flat(0, 0, 2, 2), true, true, 4, 4, 0, 0},
		{"a point outside", flat(0, 0, 2, 2), flat(3, 1, 3, 1), flat(0, 0, 3, 2), false, false, 4, 4, 0, 2},
		{"a point and a box", flat(1, 1, 1, 1), flat(0, 0, 2, 2), flat(0, 0, 2, 2), true, false, 0, 0, 0, 4},
		{"two points", flat(1, 1, 1, 1), flat(4, 3, 4, 3), flat(1, 1, 4, 3), false, false, 0, 0, 0, 6},
		{"one point twice", flat(1, 1, 1, 1), flat(1, 1, 1, 1), flat(1, 1, 1, 1), true, true, 0, 0, 0, 0},
		{"lines that cross", flat(0, 1, 4, 1), flat(2, 0, 2, 3), flat(0, 0, 4, 3), true, false, 0, 4, 0, 12},
		{"lines on one line", flat(0, 1, 4, 1), flat(6, 1, 9, 1), flat(0, 1, 9, 1), false, false, 0, 4, 0, 0},
		{"solid, crossing", solid(0, 0, 0, 4, 4, 4), solid(1, 2, 3, 5, 6, 7), solid(0, 0, 0, 5, 6, 7), true, false, 64, 12, 6, 146},
		{"solid, apart in depth", solid(0, 0, 0, 4, 4, 4), solid(0, 0, 5, 4, 4, 6), solid(0, 0, 0, 4, 4, 6), false, false, 64, 12, 0, 32},
		{"solid, faces touch", solid(0, 0, 0, 4, 4, 4), solid(0, 0, 4, 4, 4, 6), solid(0, 0, 0, 4, 4, 6), true, false, 64, 12, 0, 32},
		{"solid, within", solid(-3, -3, -3, 3, 3, 3), solid(-1, 0, 1, 2, 2, 3), solid(-3, -3, -3, 3, 3, 3), true, true, 216, 18, 12, 0},
		{"solid, not within in depth", solid(-3, -3, -3, 3, 3, 3), solid(-1, 0, 1, 2, 2, 4), solid(-3, -3, -3, 3, 3, 4), true, false, 216, 18, 12, 36},
		{"a sheet and a box", solid(0, 0, 1, 4, 4, 1), solid(0, 0, 0, 2, 2, 2), solid(0, 0, 0, 4, 4, 2), true, false, 0, 8, 0, 32},
		{"the greatest", solid(-1000, -1000, -1000, 1000, 1000, 1000), solid(-1000, 1000, 0, -1000, 1000, 0), solid(-1000, -1000, -1000, 1000, 1000, 1000), true, true, 8000000000, 6000, 0, 0},
		{"the farthest", solid(-1000, -1000, -1000, -1000, -1000, -1000), solid(1000, 1000, 1000, 1000, 1000, 1000), solid(-1000, -1000, -1000, 1000, 1000, 1000), false, false, 0, 0, 0, 8000000000},
	}
}

func TestTwoBoxes(t *testing.T) {
	for _, c := range boxCases() {
		t.Run(c.name, func(t *testing.T) {
			if got := impl.UnionOf(c.a, c.b); got.Code != impl.OK || !impl.SameRects(got.Rect, c.union) {
				t.Errorf("UnionOf: %v, not %v", got, c.union)
			}
			if got := impl.Meets(c.a, c.b); got != c.meets {
				t.Errorf("Meets: %v", got)
			}
			if got := impl.Meets(c.b, c.a); got != c.meets {
				t.Errorf("Meets, the other way round: %v", got)
			}
			if got := impl.Covers(c.a, c.b); got != c.covers {
				t.Errorf("Covers: %v", got)
			}
			sameInt(t, "AreaOf", impl.AreaOf(c.a), c.areaA)
			sameInt(t, "MarginOf", impl.MarginOf(c.a), c.marginA)
			sameInt(t, "OverlapOf", impl.OverlapOf(c.a, c.b), c.overlap)
			sameInt(t, "OverlapOf, the other way round", impl.OverlapOf(c.b, c.a), c.overlap)
			sameInt(t, "GrowthOf", impl.GrowthOf(c.a, c.b), c.growth)
		})
	}
}

func sameInt(t *testing.T, what string, got impl.IntResult, want int64) {
	t.Helper()
	if got != (impl.IntResult{Value: want}) {
		t.Errorf("%s: %v, not %d", what, got, want)
	}
}

func TestDistOf(t *testing.T) {
	cases := []struct {
		name string
		r    impl.Rect
		p    []int64
		want int64
	}{
		{"right of it", flat(0, 0, 2, 2), []int64{5, 1}, 3},
		{"left of it", flat(0, 0, 2, 2), []int64{-4, 1}, 4},
		{"above it", flat(0, 0, 2, 2), []int64{1, 9}, 7},
		{"below it", flat(0, 0, 2, 2), []int64{1, -1}, 1},
		{"off two sides", flat(0, 0, 2, 2), []int64{-2, 5}, 5},
		{"inside", flat(0, 0, 2, 2), []int64{1, 1}, 0},
		{"on a side", flat(0, 0, 2, 2), []int64{2, 1}, 0},
		{"on the lowest corner", flat(0, 0, 2, 2), []int64{0, 0}, 0},
		{"on the highest corner", flat(0, 0, 2, 2), []int64{2, 2}, 0},
		{"one beyond a corner", flat(0, 0, 2, 2), []int64{3, 3}, 2},
		{"of a point to itself", flat(7, -7, 7, -7), []int64{7, -7}, 0},
		{"of a point", flat(7, -7, 7, -7), []int64{6, -5}, 3},
		{"of a line, beside it", flat(0, 3, 8, 3), []int64{4, 1}, 2},
		{"solid, off three sides", solid(0, 0, 0, 1, 1, 1), []int64{-1, 3, 4}, 6},
		{"solid, in depth alone", solid(0, 0, 0, 1, 1, 1), []int64{0, 1, -9}, 9},
		{"solid, inside", solid(-3, -3, -3, 3, 3, 3), []int64{0, 1, -2}, 0},
		{"solid, on an edge", solid(-3, -3, -3, 3, 3, 3), []int64{3, -3, 0}, 0},
		{"the farthest", solid(1000, 1000, 1000, 1000, 1000, 1000), []int64{-1000, -1000, -1000}, 6000},
	}
	for _, c := range cases {
		t.Run(c.name, func(t *testing.T) {
			sameInt(t, "DistOf", impl.DistOf(c.r, c.p), c.want)
		})
	}
}

func TestSameRects(t *testing.T) {
	a := flat(1, 2, 3, 4)
	cases := []struct {
		name string
		a, b impl.Rect
		want bool
	}{
		{"the same numbers", a, flat(1, 2, 3, 4), true},
		{"another Low", a, flat(1, 1, 3, 4), false},
		{"another High", a, flat(1, 2, 4, 4), false},
		{"Low and High exchanged", a, flat(3, 4, 1, 2), false},
		{"other dims", a, solid(1, 2, 0, 3, 4, 0), false},
		{"a longer Low", a, impl.Rect{Low: []int64{1, 2, 3}, High: []int64{3, 4}}, false},
		{"a longer High", a, impl.Rect{Low: []int64{1, 2}, High: []int64{3, 4, 0}}, false},
		{"no High", a, impl.Rect{Low: []int64{1, 2}}, false},
		{"no Low", a, impl.Rect{High: []int64{3, 4}}, false},
		{"the same numbers, cut elsewhere", impl.Rect{Low: []int64{1}, High: []int64{2, 3}}, impl.Rect{Low: []int64{1, 2}, High: []int64{3}}, false},
		{"nothing and nothing", impl.Rect{}, impl.Rect{}, true},
		{"empty and nil", impl.Rect{Low: []int64{}, High: []int64{}}, impl.Rect{}, true},
		{"something and nothing", a, impl.Rect{}, false},
		{"with a fault, alike", flat(9, 9, -5000, 0), flat(9, 9, -5000, 0), true},
		{"with a fault, not alike", flat(9, 9, -5000, 0), flat(9, 9, -5000, 1), false},
		{"one number", impl.Rect{Low: []int64{5}}, impl.Rect{Low: []int64{5}}, true},
		{"four numbers", impl.Rect{Low: []int64{1, 2, 3, 4}}, impl.Rect{Low: []int64{1, 2, 3, 5}}, false},
	}
	for _, c := range cases {
		t.Run(c.name, func(t *testing.T) {
			if got := impl.SameRects(c.a, c.b); got != c.want {
				t.Errorf("%v", got)
			}
			if got := impl.SameRects(c.b, c.a); got != c.want {
				t.Errorf("the other way round: %v", got)
			}
		})
	}
}
