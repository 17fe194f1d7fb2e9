package tests

import (
	"math"
	"testing"

	"loop.example/g00680/impl"
)

func TestPointFault(t *testing.T) {
	cases := []struct {
		name string
		p    []int64
		dims int64
		want int64
	}{
		{"flat", []int64{3, -4}, 2, impl.OK},
		{"solid", []int64{3, -4, 5}, 3, impl.OK},
		{"at the bounds", []int64{1000, -1000}, 2, impl.OK},
		{"no dims", nil, 0, impl.ErrRange},
		{"one dim", []int64{1}, 1, impl.ErrRange},
		{"four dims", []int64{1, 2, 3, 4}, 4, impl.ErrRange},
		{"dims below 0", []int64{1, 2}, -2, impl.ErrRange},
		{"the least dims", []int64{1, 2}, math.MinInt64, impl.ErrRange},
		{"the most dims", []int64{1, 2}, math.MaxInt64, impl.ErrRange},
		{"dims that are 2 in 32 bits", []int64{1, 2}, 1<<32 + 2, impl.ErrRange},
		{"no numbers", nil, 2, impl.ErrMany},
		{"an empty list", []int64{}, 3, impl.ErrMany},
		{"too few", []int64{1}, 2, impl.ErrMany},
		{"too few of three", []int64{1, 2}, 3, impl.ErrMany},
		{"too many", []int64{1, 2, 3}, 2, impl.ErrMany},
		{"too many of three", []int64{1, 2, 3, 4}, 3, impl.ErrMany},
		{"above the bounds", []int64{0, 1001}, 2, impl.ErrRange},
		{"below the bounds", []int64{-1001, 0}, 2, impl.ErrRange},
		{"the last one above", []int64{0, 0, 1001}, 3, impl.ErrRange},
		{"the last one below", []int64{0, 0, -1001}, 3, impl.ErrRange},
		{"the greatest number", []int64{math.MaxInt64, 0}, 2, impl.ErrRange},
		{"the least number", []int64{0, math.MinInt64}, 2, impl.ErrRange},
		{"dims ahead of how many", []int64{1, 2, 3}, 4, impl.ErrRange},
		{"how many ahead of the numbers", []int64{5000}, 2, impl.ErrMany},
		{"how many ahead of the numbers, too many", []int64{0, 0, 5000}, 2, impl.ErrMany},
	}
	for _, c := range cases {
		t.Run(c.name, func(t *testing.T) {
			if got := impl.PointFault(c.p, c.dims); got != c.want {
				t.Errorf("%d, not %d", got, c.want)
			}
		})
	}
}

// boxFault is a box with a fault, or without one, if it has dims dimensions.
type boxFault struct {
	name string
	r    impl.Rect
	dims int64
	want int64
}

// ownFaults are those that a box has by itself, with as many dims as its Low
// has numbers.
func ownFaults() []boxFault {
	return []boxFault{
		{"nothing", impl.Rect{}, 0, impl.ErrRange},
		{"no Low", impl.Rect{High: []int64{1, 2}}, 0, impl.ErrRange},
		{"one number", impl.Rect{Low: []int64{1}, High: []int64{2}}, 1, impl.ErrRange},
		{"four numbers", impl.Rect{Low: []int64{1, 2, 3, 4}, High: []int64{1, 2, 3, 4}}, 4, impl.ErrRange},
		{"no High", impl.Rect{Low: []int64{1, 2}}, 2, impl.ErrMany},
		{"High too short", impl.Rect{Low: []int64{1, 2, 3}, High: []int64{4, 5}}, 3, impl.ErrMany},
		{"High too long", impl.Rect{Low: []int64{1, 2}, High: []int64{4, 5, 6}}, 2, impl.ErrMany},
		{"Low below the bounds", flat(-1001, 0, 1, 1), 2, impl.ErrRange},
		{"Low above the bounds", flat(0, 1001, 1, 1), 2, impl.ErrRange},
		{"High above the bounds", flat(0, 0, 1001, 1), 2, impl.ErrRange},
		{"High below the bounds", flat(0, 0, 1, -1001), 2, impl.ErrRange},
		{"in depth, above", solid(0, 0, 0, 1, 1, 1001), 3, impl.ErrRange},
		{"in depth, below", solid(0, 0, -1001, 1, 1, 1), 3, impl.ErrRange},
		{"the utmost numbers", flat(math.MinInt64, math.MinInt64, math.MaxInt64, math.MaxInt64), 2, impl.ErrRange},
		{"Low above High", flat(3, 0, 2, 2), 2, impl.ErrForm},
		{"Low above High, second", flat(0, 3, 2, 2), 2, impl.ErrForm},
		{"Low above High, third", solid(0, 0, 1, 2, 2, 0), 3, impl.ErrForm},
		{"Low ahead of High", impl.Rect{Low: []int64{5000, 0}, High: []int64{1}}, 2, impl.ErrRange},
		{"how many in High ahead of its numbers", impl.Rect{Low: []int64{0, 0}, High: []int64{5000}}, 2, impl.ErrMany},
		{"how many in High ahead of the order", impl.Rect{Low: []int64{5, 5}, High: []int64{1}}, 2, impl.ErrMany},
		{"the bounds of Low ahead of the order", flat(5, 1001, 1, 1), 2, impl.ErrRange},
		{"the bounds of High ahead of the order", flat(5, 5, 1, -1001), 2, impl.ErrRange},
	}
}

// otherFaults are those that a box has only beside one with other dims.
func otherFaults() []boxFault {
	return []boxFault{
		{"three for two", solid(0, 0, 0, 1, 1, 1), 2, impl.ErrMany},
		{"two for three", flat(0, 0, 1, 1), 3, impl.ErrMany},
		{"nothing for two", impl.Rect{}, 2, impl.ErrMany},
		{"nothing for three", impl.Rect{}, 3, impl.ErrMany},
		{"Low alone too long", impl.Rect{Low: []int64{0, 0, 0}, High: []int64{1, 1}}, 2, impl.ErrMany},
		{"how many in Low ahead of its numbers", impl.Rect{Low: []int64{5000}, High: []int64{1, 1}}, 2, impl.ErrMany},
		{"Low's bounds ahead of how many in High", impl.Rect{Low: []int64{0, -1001}, High: []int64{1, 1, 1}}, 2, impl.ErrRange},
		{"how many ahead of the order", solid(5, 5, 5, 1, 1, 1), 2, impl.ErrMany},
	}
}

func TestRectFault(t *testing.T) {
	cases := append(ownFaults(), otherFaults()...)
	cases = append(cases,
		boxFault{"flat", flat(-1, -2, 3, 4), 2, impl.OK},
		boxFault{"solid", solid(-1, -2, -3, 3, 4, 5), 3, impl.OK},
		boxFault{"a point", flat(7, 7, 7, 7), 2, impl.OK},
		boxFault{"a line", solid(0, 1, 2, 0, 9, 2), 3, impl.OK},
		boxFault{"at the bounds", solid(-1000, -1000, -1000, 1000, 1000, 1000), 3, impl.OK},
		boxFault{"dims ahead of all", flat(5000, 0, 1, 1), 4, impl.ErrRange},
		boxFault{"dims below 0", flat(0, 0, 1, 1), -1, impl.ErrRange},
		boxFault{"one dim", flat(0, 0, 1, 1), 1, impl.ErrRange},
		boxFault{"the least dims", flat(0, 0, 1, 1), math.MinInt64, impl.ErrRange},
		boxFault{"the most dims", flat(0, 0, 1, 1), math.MaxInt64, impl.ErrRange},
	)
	for _, c := range cases {
		t.Run(c.name, func(t *testing.T) {
			if got := impl.RectFault(c.r, c.dims); got != c.want {
				t.Errorf("%d, not %d", got, c.want)
			}
		})
	}
}

func rightBox(dims int64) impl.Rect {
	if dims == 3 {
		return solid(-9, -9, -9, 9, 9, 9)
	}
	return flat(-9, -9, 9, 9)
}

// sayTwo asks all that is asked of two boxes, and wants just this code.
func sayTwo(t *testing.T, a impl.Rect, b impl.Rect, want int64) {
	t.Helper()
	u := impl.UnionOf(a, b)
	if u.Code != want || len(u.Rect.Low) != 0 || len(u.Rect.High) != 0 {
		t.Errorf("UnionOf: %v, not the code %d alone", u, want)
	}
	sayCode(t, "OverlapOf", impl.OverlapOf(a, b), want)
	sayCode(t, "GrowthOf", impl.GrowthOf(a, b), want)
	if impl.Meets(a, b) {
		t.Error("Meets, with a fault")
	}
	if impl.Covers(a, b) {
		t.Error("Covers, with a fault")
	}
}

func sayCode(t *testing.T, what string, got impl.IntResult, want int64) {
	t.Helper()
	if got != (impl.IntResult{Code: want}) {
		t.Errorf("%s: %v, not the code %d alone", what, got, want)
	}
}

func TestFaultOfTheFirstBox(t *testing.T) {
	for _, c := range ownFaults() {
		t.Run(c.name, func(t *testing.T) {
			sayTwo(t, c.r, rightBox(c.dims), c.want)
			sayTwo(t, c.r, c.r, c.want)
			sayCode(t, "AreaOf", impl.AreaOf(c.r), c.want)
			sayCode(t, "MarginOf", impl.MarginOf(c.r), c.want)
			sayCode(t, "DistOf", impl.DistOf(c.r, rightBox(c.dims).Low), c.want)
		})
	}
}

func TestFaultOfTheSecondBox(t *testing.T) {
	for _, c := range append(ownFaults(), otherFaults()...) {
		if c.dims != 2 && c.dims != 3 {
			continue
		}
		t.Run(c.name, func(t *testing.T) {
			sayTwo(t, rightBox(c.dims), c.r, c.want)
		})
	}
}

func TestFaultOfThePoint(t *testing.T) {
	cases := []struct {
		name string
		r    impl.Rect
		p    []int64
		want int64
	}{
		{"none", rightBox(2), nil, impl.ErrMany},
		{"too few", rightBox(2), []int64{1}, impl.ErrMany},
		{"too many", rightBox(2), []int64{1, 2, 3}, impl.ErrMany},
		{"too few of three", rightBox(3), []int64{1, 2}, impl.ErrMany},
		{"too many of three", rightBox(3), []int64{1, 2, 3, 4}, impl.ErrMany},
		{"above the bounds", rightBox(2), []int64{1, 1001}, impl.ErrRange},
		{"below the bounds", rightBox(3), []int64{1, 1, -1001}, impl.ErrRange},
		{"the utmost numbers", rightBox(2), []int64{math.MinInt64, math.MaxInt64}, impl.ErrRange},
		{"how many ahead of the numbers", rightBox(2), []int64{5000}, impl.ErrMany},
	}
	for _, c := range cases {
		t.Run(c.name, func(t *testing.T) {
			sayCode(t, "DistOf", impl.DistOf(c.r, c.p), c.want)
		})
	}
}

func TestFirstBoxIsAskedAheadOfTheSecond(t *testing.T) {
	form, many, bounds := flat(3, 0, 2, 2), solid(0, 0, 0, 1, 1, 1), flat(0, 0, 1, 1001)
	sayTwo(t, form, many, impl.ErrForm)
	sayTwo(t, form, bounds, impl.ErrForm)
	sayTwo(t, bounds, form, impl.ErrRange)
	sayTwo(t, bounds, many, impl.ErrRange)
	sayTwo(t, impl.Rect{}, form, impl.ErrRange)
	sayTwo(t, impl.Rect{Low: []int64{0, 0}}, form, impl.ErrMany)
	sayCode(t, "DistOf", impl.DistOf(form, nil), impl.ErrForm)
	sayCode(t, "DistOf", impl.DistOf(form, []int64{0, 1001}), impl.ErrForm)
	sayCode(t, "DistOf", impl.DistOf(bounds, nil), impl.ErrRange)
}
