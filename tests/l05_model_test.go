package tests

import (
	"slices"
	"testing"

	"loop.example/g00680/impl"
)

// What chapter 5 tells is told here a second time, from the numbers of the
// boxes alone, and by going through all that may be chosen.

func sizeOf(list ...impl.Entry) int64 {
	r, size := smallestBox(list), int64(1)
	for i := range r.Low {
		size *= r.High[i] - r.Low[i]
	}
	return size
}

func girthOf(list []impl.Entry) int64 {
	r, sum := smallestBox(list), int64(0)
	for i := range r.Low {
		sum += r.High[i] - r.Low[i]
	}
	return sum
}

func sharedSize(a []impl.Entry, b []impl.Entry) int64 {
	x, y, size := smallestBox(a), smallestBox(b), int64(1)
	for i := range x.Low {
		size *= max(0, min(x.High[i], y.High[i])-max(x.Low[i], y.Low[i]))
	}
	return size
}

// leastOf is the place of the row that is the least: of those whose first
// numbers are alike the second ones tell, and so on, and at last the place.
func leastOf(rows [][]int64) int {
	best := 0
	for i, row := range rows {
		if slices.Compare(row, rows[best]) < 0 {
			best = i
		}
	}
	return best
}

func modelChoice(list []impl.Entry, r impl.Rect) int {
	var rows [][]int64
	for _, e := range list {
		rows = append(rows, []int64{sizeOf(e, entryOf(0, 0, r)) - sizeOf(e), sizeOf(e)})
	}
	return leastOf(rows)
}

func modelSeeds(list []impl.Entry) (int, int) {
	var rows [][]int64
	var both [][2]int
	for i := range list {
		for k := range list[:i] {
			rows = append(rows, []int64{sizeOf(list[i]) + sizeOf(list[k]) - sizeOf(list[i], list[k]), int64(k), int64(i)})
			both = append(both, [2]int{k, i})
		}
	}
	seeds := both[leastOf(rows)]
	return seeds[0], seeds[1]
}

const onNone = 0
const onFirst = 1
const onSecond = 2

// table tells of each entry on which side it is.
type table struct {
	list []impl.Entry
	on   []int
}

func (x table) side(which int) []impl.Entry {
	var side []impl.Entry
	for i, e := range x.list {
		if x.on[i] == which {
			side = append(side, e)
		}
	}
	return side
}

func (x table) growth(which int, i int) int64 {
	side := x.side(which)
	return sizeOf(append(slices.Clone(side), x.list[i])...) - sizeOf(side...)
}

// next is the entry whose growths differ most, and the side that it goes to.
func (x table) next() (int, int) {
	var rows [][]int64
	var left []int
	for i := range x.list {
		if x.on[i] == onNone {
			a, b := x.growth(onFirst, i), x.growth(onSecond, i)
			rows, left = append(rows, []int64{min(a-b, b-a)}), append(left, i)
		}
	}
	i := left[leastOf(rows)]
	first, second := x.side(onFirst), x.side(onSecond)
	return i, onFirst + leastOf([][]int64{
		{x.growth(onFirst, i), sizeOf(first...), int64(len(first))},
		{x.growth(onSecond, i), sizeOf(second...), int64(len(second))},
	})
}

func (x table) fill(which int) {
	for i := range x.on {
		if x.on[i] == onNone {
			x.on[i] = which
		}
	}
}

func modelQuad(list []impl.Entry) ([]impl.Entry, []impl.Entry) {
	x := table{list, make([]int, len(list))}
	a, b := modelSeeds(list)
	x.on[a], x.on[b] = onFirst, onSecond
	for len(x.side(onNone)) > 0 {
		left := len(x.side(onNone))
		if left+len(x.side(onFirst)) <= 2 {
			x.fill(onFirst)
		} else if left+len(x.side(onSecond)) <= 2 {
			x.fill(onSecond)
		} else {
			i, which := x.next()
			x.on[i] = which
		}
	}
	return x.side(onFirst), x.side(onSecond)
}

func modelSort(list []impl.Entry, axis int64) []impl.Entry {
	var sorted []impl.Entry
	rest := slices.Clone(list)
	for len(rest) > 0 {
		var rows [][]int64
		for _, e := range rest {
			rows = append(rows, []int64{e.Rect.Low[axis], e.Rect.High[axis]})
		}
		i := leastOf(rows)
		sorted = append(sorted, rest[i])
		rest = slices.Delete(rest, i, i+1)
	}
	return sorted
}

func modelAxis(list []impl.Entry, dims int64) int64 {
	var rows [][]int64
	for axis := range dims {
		sorted, sum := modelSort(list, axis), int64(0)
		for cut := 2; cut <= len(list)-2; cut++ {
			sum += girthOf(sorted[:cut]) + girthOf(sorted[cut:])
		}
		rows = append(rows, []int64{sum})
	}
	return int64(leastOf(rows))
}

func modelStar(list []impl.Entry, dims int64) ([]impl.Entry, []impl.Entry) {
	sorted := modelSort(list, modelAxis(list, dims))
	var rows [][]int64
	for cut := 2; cut <= len(list)-2; cut++ {
		a, b := sorted[:cut], sorted[cut:]
		rows = append(rows, []int64{sharedSize(a, b), sizeOf(a...) + sizeOf(b...)})
	}
	cut := 2 + leastOf(rows)
	return sorted[:cut], sorted[cut:]
}

// mill makes one number out of the other, the same ones each time.
type mill struct {
	state uint64
}

func (m *mill) below(n int64) int64 {
	m.state = m.state*6364136223846793005 + 1442695040888963407
	return int64(m.state>>33) % n
}

// entries have the corners of their boxes among a few numbers, so that much is
// alike, or among many, so that hardly anything is.
func (m *mill) entries(dims int64, count int, width int64) []impl.Entry {
	var list []impl.Entry
	for i := range count {
		var r impl.Rect
		for range dims {
			a, b := m.below(width)-width/2, m.below(width)-width/2
			r.Low, r.High = append(r.Low, min(a, b)), append(r.High, max(a, b))
		}
		list = append(list, entryOf((int64(i)*7+m.below(7))%1000, m.below(100001), r))
	}
	return list
}

// eachList goes through lists of all lengths, with few and with many numbers, in
// two and in three dimensions, each with one more box that is made alike.
func eachList(least int, ask func(list []impl.Entry, dims int64, r impl.Rect)) {
	m := &mill{7}
	for dims := int64(2); dims <= 3; dims++ {
		for _, width := range []int64{1, 2, 3, 4, 6, 12, 2001} {
			for count := least; count <= 8; count++ {
				for range 40 {
					ask(m.entries(dims, count, width), dims, m.entries(dims, 1, width)[0].Rect)
				}
			}
		}
	}
}

func likeEntries(a []impl.Entry, b []impl.Entry) bool {
	return slices.EqualFunc(a, b, likeEntry)
}

func TestChoiceAsTheModelTells(t *testing.T) {
	eachList(1, func(list []impl.Entry, dims int64, r impl.Rect) {
		if got := impl.ChooseEntry(list, dims, r); got != (impl.IntResult{Value: int64(modelChoice(list, r))}) {
			t.Fatalf("ChooseEntry of %v for %v: %v, not %d", list, r, got, modelChoice(list, r))
		}
	})
}

func TestQuadAsTheModelTells(t *testing.T) {
	eachList(4, func(list []impl.Entry, dims int64, r impl.Rect) {
		a, b := modelSeeds(list)
		if got := impl.SeedsOf(list, dims); got.Code != impl.OK || !slices.Equal(got.List, []int64{int64(a), int64(b)}) {
			t.Fatalf("SeedsOf %v: %v, not %d and %d", list, got, a, b)
		}
		first, second := modelQuad(list)
		if got := impl.SplitQuad(list, dims); got.Code != impl.OK || !likeEntries(got.First, first) || !likeEntries(got.Second, second) {
			t.Fatalf("SplitQuad of %v: %v, not %v and %v", list, got, first, second)
		}
	})
}

func TestStarAsTheModelTells(t *testing.T) {
	eachList(4, func(list []impl.Entry, dims int64, r impl.Rect) {
		sameInt(t, "AxisOf", impl.AxisOf(list, dims), modelAxis(list, dims))
		first, second := modelStar(list, dims)
		if got := impl.SplitStar(list, dims); got.Code != impl.OK || !likeEntries(got.First, first) || !likeEntries(got.Second, second) {
			t.Fatalf("SplitStar of %v: %v, not %v and %v", list, got, first, second)
		}
	})
}

func TestOrderAsTheModelTells(t *testing.T) {
	eachList(0, func(list []impl.Entry, dims int64, r impl.Rect) {
		for axis := range dims {
			want := modelSort(list, axis)
			if got := impl.SortAxis(list, dims, axis); got.Code != impl.OK || !likeEntries(got.Entries, want) {
				t.Fatalf("SortAxis %d of %v: %v, not %v", axis, list, got, want)
			}
		}
	})
}

// Promise 6, asked of the program's answers alone.
func TestNoOtherEntryGrowsLess(t *testing.T) {
	eachList(1, func(list []impl.Entry, dims int64, r impl.Rect) {
		chosen := impl.ChooseEntry(list, dims, r)
		for i, e := range list {
			if impl.GrowthOf(e.Rect, r).Value < impl.GrowthOf(list[chosen.Value].Rect, r).Value {
				t.Fatalf("%v of %v for %v, but %d grows less", chosen, list, r, i)
			}
		}
	})
}

func TestEachEntryIsOnOneSide(t *testing.T) {
	eachList(4, func(list []impl.Entry, dims int64, r impl.Rect) {
		sayAllOnOneSide(t, list, impl.SplitQuad(list, dims))
		sayAllOnOneSide(t, list, impl.SplitStar(list, dims))
		sayAllOnOneSide(t, list, impl.SplitBy(impl.StyleQuad, list, dims))
		sayAllOnOneSide(t, list, impl.SplitBy(impl.StyleStar, list, dims))
	})
}

func sayAllOnOneSide(t *testing.T, list []impl.Entry, got impl.PartsResult) {
	t.Helper()
	if got.Code != impl.OK || len(got.First) < impl.MinEntries || len(got.Second) < impl.MinEntries {
		t.Fatalf("of %v: %v", list, got)
	}
	both := slices.Concat(got.First, got.Second)
	if len(both) != len(list) {
		t.Fatalf("%d entries of %d", len(both), len(list))
	}
	for _, e := range list {
		if !slices.ContainsFunc(both, func(other impl.Entry) bool { return likeEntry(e, other) }) {
			t.Fatalf("%v is on no side: %v", e, got)
		}
	}
}

// What the styles part is parted as SplitBy tells, whichever of both is asked.
func TestSplitByIsOneOrTheOther(t *testing.T) {
	eachList(4, func(list []impl.Entry, dims int64, r impl.Rect) {
		quad, star := impl.SplitQuad(list, dims), impl.SplitStar(list, dims)
		by := []impl.PartsResult{impl.SplitBy(impl.StyleQuad, list, dims), impl.SplitBy(impl.StyleStar, list, dims)}
		for i, want := range []impl.PartsResult{quad, star} {
			if by[i].Code != want.Code || !likeEntries(by[i].First, want.First) || !likeEntries(by[i].Second, want.Second) {
				t.Fatalf("the style %d of %v: %v, not %v", i, list, by[i], want)
			}
		}
	})
}
