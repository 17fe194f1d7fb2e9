package tests

import (
	"slices"
	"testing"

	"loop.example/g00680/impl"
)

// A lattice is a small piece of the plane or of space, on which all that
// chapter 1 tells can be counted out: points and unit cells in place of
// products and comparisons.
type lattice struct {
	boxes  []impl.Rect
	points [][]int64
}

func latticeOf(dims int, least int64, most int64) lattice {
	l := lattice{points: pointsOf(dims, least, most)}
	for _, low := range l.points {
		for _, high := range l.points {
			if !anyAbove(low, high) {
				l.boxes = append(l.boxes, impl.Rect{Low: slices.Clone(low), High: slices.Clone(high)})
			}
		}
	}
	return l
}

func pointsOf(dims int, least int64, most int64) [][]int64 {
	if dims == 0 {
		return [][]int64{{}}
	}
	var list [][]int64
	for _, head := range pointsOf(dims-1, least, most) {
		for n := least; n <= most; n++ {
			list = append(list, append(slices.Clone(head), n))
		}
	}
	return list
}

func anyAbove(a []int64, b []int64) bool {
	for i := range a {
		if a[i] > b[i] {
			return true
		}
	}
	return false
}

func hasPoint(r impl.Rect, p []int64) bool {
	return !anyAbove(r.Low, p) && !anyAbove(p, r.High)
}

func hasCell(r impl.Rect, p []int64) bool {
	end := slices.Clone(p)
	for i := range end {
		end[i]++
	}
	return hasPoint(r, p) && hasPoint(r, end)
}

func (l lattice) cells(in ...impl.Rect) int64 {
	count := int64(0)
	for _, p := range l.points {
		if !slices.ContainsFunc(in, func(r impl.Rect) bool { return !hasCell(r, p) }) {
			count++
		}
	}
	return count
}

// around is the smallest box with all points of both in it.
func (l lattice) around(a impl.Rect, b impl.Rect) impl.Rect {
	var r impl.Rect
	for _, p := range l.points {
		if !hasPoint(a, p) && !hasPoint(b, p) {
			continue
		}
		if r.Low == nil {
			r = impl.Rect{Low: slices.Clone(p), High: slices.Clone(p)}
		}
		for i, n := range p {
			r.Low[i] = min(r.Low[i], n)
			r.High[i] = max(r.High[i], n)
		}
	}
	return r
}

func (l lattice) meets(a impl.Rect, b impl.Rect) bool {
	return slices.ContainsFunc(l.points, func(p []int64) bool { return hasPoint(a, p) && hasPoint(b, p) })
}

func (l lattice) covers(a impl.Rect, b impl.Rect) bool {
	return !slices.ContainsFunc(l.points, func(p []int64) bool { return hasPoint(b, p) && !hasPoint(a, p) })
}

// nearest is how many steps along the axes lead from p into the box.
func (l lattice) nearest(r impl.Rect, p []int64) int64 {
	best := int64(-1)
	for _, q := range l.points {
		if !hasPoint(r, q) {
			continue
		}
		steps := int64(0)
		for i := range q {
			steps += max(p[i]-q[i], q[i]-p[i])
		}
		if best < 0 || steps < best {
			best = steps
		}
	}
	return best
}

func edges(r impl.Rect) int64 {
	count := int64(0)
	for i := range r.Low {
		for n := r.Low[i]; n < r.High[i]; n++ {
			count++
		}
	}
	return count
}

func lattices() []lattice {
	return []lattice{latticeOf(2, -2, 2), latticeOf(3, -1, 1)}
}

func TestTwoBoxesCountedOut(t *testing.T) {
	for _, l := range lattices() {
		for _, a := range l.boxes {
			for _, b := range l.boxes {
				around := l.around(a, b)
				if got := impl.UnionOf(a, b); got.Code != impl.OK || !impl.SameRects(got.Rect, around) {
					t.Fatalf("UnionOf %v and %v: %v", a, b, got)
				}
				if got := impl.Meets(a, b); got != l.meets(a, b) {
					t.Fatalf("Meets %v and %v: %v", a, b, got)
				}
				if got := impl.Covers(a, b); got != l.covers(a, b) {
					t.Fatalf("Covers %v and %v: %v", a, b, got)
				}
				if got := impl.OverlapOf(a, b); got != (impl.IntResult{Value: l.cells(a, b)}) {
					t.Fatalf("OverlapOf %v and %v: %v", a, b, got)
				}
				if got := impl.GrowthOf(a, b); got != (impl.IntResult{Value: l.cells(around) - l.cells(a)}) {
					t.Fatalf("GrowthOf %v and %v: %v", a, b, got)
				}
				if got := impl.SameRects(a, b); got != (slices.Equal(a.Low, b.Low) && slices.Equal(a.High, b.High)) {
					t.Fatalf("SameRects %v and %v: %v", a, b, got)
				}
			}
		}
	}
}

func TestOneBoxCountedOut(t *testing.T) {
	for _, l := range lattices() {
		for _, r := range l.boxes {
			if code := impl.RectFault(r, int64(len(r.Low))); code != impl.OK {
				t.Fatalf("RectFault %v: %d", r, code)
			}
			if got := impl.AreaOf(r); got != (impl.IntResult{Value: l.cells(r)}) {
				t.Fatalf("AreaOf %v: %v", r, got)
			}
			if got := impl.MarginOf(r); got != (impl.IntResult{Value: edges(r)}) {
				t.Fatalf("MarginOf %v: %v", r, got)
			}
			for _, p := range l.points {
				if got := impl.DistOf(r, p); got != (impl.IntResult{Value: l.nearest(r, p)}) {
					t.Fatalf("DistOf %v and %v: %v", r, p, got)
				}
			}
		}
	}
}

// Promise 2, word by word, asked of the program's answers alone.
func TestUnionCoversAndCommonIsNoMore(t *testing.T) {
	for _, l := range lattices() {
		for _, a := range l.boxes {
			for _, b := range l.boxes {
				if u := impl.UnionOf(a, b).Rect; !impl.Covers(u, a) || !impl.Covers(u, b) {
					t.Fatalf("the union of %v and %v does not cover both: %v", a, b, u)
				}
				common := impl.OverlapOf(a, b).Value
				if common < 0 || common > impl.AreaOf(a).Value || common > impl.AreaOf(b).Value {
					t.Fatalf("%v and %v have %d in common", a, b, common)
				}
			}
		}
	}
}

func TestNoFartherThanWhatIsCovered(t *testing.T) {
	for _, l := range lattices() {
		for _, a := range l.boxes {
			for _, b := range l.boxes {
				if !impl.Covers(a, b) {
					continue
				}
				for _, p := range l.points {
					if impl.DistOf(a, p).Value > impl.DistOf(b, p).Value {
						t.Fatalf("%v covers %v, but is farther away from %v", a, b, p)
					}
				}
			}
		}
	}
}

func TestNotAwayFromWhatIsIn(t *testing.T) {
	for _, l := range lattices() {
		for _, r := range l.boxes {
			for _, p := range l.points {
				in := impl.Covers(r, impl.Rect{Low: p, High: p})
				if got := impl.DistOf(r, p); got.Code != impl.OK || in != (got.Value == 0) {
					t.Fatalf("%v is %v away from %v, in it: %v", r, got, p, in)
				}
			}
		}
	}
}
