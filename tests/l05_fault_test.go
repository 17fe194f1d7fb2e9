package tests

import (
	"fmt"
	"math"
	"slices"
	"testing"

	"loop.example/g00680/impl"
)

// asked is a list of entries with the dims by which it is asked.
type asked struct {
	list []impl.Entry
	dims int64
}

// listTurn makes a list with a fault of rightList. Of two turns the one with
// the lesser rank is asked first: what goes one by one has a rank for each
// entry.
type listTurn struct {
	rank int
	name string
	want int64
	turn func(a *asked)
}

// listCase is a list with a fault.
type listCase struct {
	name string
	a    asked
	want int64
}

// rightList has entries without a fault: their Refs neither rise nor fall, and
// the utmost ones are among them. Unlike those of a node they may have any Nsn
// beside any Ref.
func rightList(dims int64, count int) []impl.Entry {
	refs := []int64{30, 4, 999, 0, 517, 40, 998, 39}
	nsns := []int64{0, 100000, 5, 1, 99, 7, 8, 0}
	var list []impl.Entry
	for i := range count {
		list = append(list, entryOf(refs[i], nsns[i], entryBox(dims, int64(i))))
	}
	return list
}

func spoilt(turns ...func(a *asked)) asked {
	a := asked{rightList(2, 4), 2}
	for _, turn := range turns {
		turn(&a)
	}
	return a
}

func askedAs(dims int64) func(a *asked) {
	return func(a *asked) { a.dims = dims }
}

// grownTo puts entries without a fault behind the others.
func grownTo(count int) func(a *asked) {
	return func(a *asked) {
		for i := len(a.list); i < count; i++ {
			a.list = append(a.list, entryOf(int64(100+i%800), 3, flat(0, 0, 1, 1)))
		}
	}
}

func rectTo(i int, r impl.Rect) func(a *asked) {
	return func(a *asked) { a.list[i].Rect = r }
}

func refTo(i int, ref int64) func(a *asked) {
	return func(a *asked) { a.list[i].Ref = ref }
}

func nsnTo(i int, nsn int64) func(a *asked) {
	return func(a *asked) { a.list[i].Nsn = nsn }
}

// alike gives both entries one Ref.
func alike(i int, k int) func(a *asked) {
	return func(a *asked) { a.list[k].Ref = a.list[i].Ref }
}

const rankOfDims = 1
const rankOfMany = 2
const rankOfEntry = 10
const rankOfTaken = 1000

func rankOfRect(i int) int {
	return rankOfEntry + 2*i
}

func rankOfNumbers(i int) int {
	return rankOfRect(i) + 1
}

func listHeadTurns() []listTurn {
	return []listTurn{
		{rankOfDims, "no dims", impl.ErrRange, askedAs(0)},
		{rankOfDims, "one dim", impl.ErrRange, askedAs(1)},
		{rankOfDims, "four dims", impl.ErrRange, askedAs(4)},
		{rankOfDims, "dims below 0", impl.ErrRange, askedAs(-2)},
		{rankOfDims, "the least dims", impl.ErrRange, askedAs(math.MinInt64)},
		{rankOfDims, "the most dims", impl.ErrRange, askedAs(math.MaxInt64)},
		{rankOfDims, "dims that are 2 in 32 bits", impl.ErrRange, askedAs(1<<32 + 2)},
		{rankOfMany, "nine entries", impl.ErrMany, grownTo(9)},
		{rankOfMany, "far too many entries", impl.ErrMany, grownTo(500)},
	}
}

func listEntryTurns() []listTurn {
	var all []listTurn
	for i := range 4 {
		add := func(rank int, what string, want int64, turn func(a *asked)) {
			all = append(all, listTurn{rank, fmt.Sprintf("the entry %d: %s", i, what), want, turn})
		}
		add(rankOfRect(i), "no box", impl.ErrMany, rectTo(i, impl.Rect{}))
		add(rankOfRect(i), "a box of other dims", impl.ErrMany, rectTo(i, rectMany))
		add(rankOfRect(i), "a box out of bounds", impl.ErrRange, rectTo(i, rectRange))
		add(rankOfRect(i), "a box turned over", impl.ErrForm, rectTo(i, rectForm))
		add(rankOfNumbers(i), "a Ref below 0", impl.ErrRange, refTo(i, -1))
		add(rankOfNumbers(i), "a Ref above the bounds", impl.ErrRange, refTo(i, 1000))
		add(rankOfNumbers(i), "the least Ref", impl.ErrRange, refTo(i, math.MinInt64))
		add(rankOfNumbers(i), "the most Ref", impl.ErrRange, refTo(i, math.MaxInt64))
		add(rankOfNumbers(i), "a Ref that is 1 in 32 bits", impl.ErrRange, refTo(i, 1<<32+1))
		add(rankOfNumbers(i), "a Nsn below 0", impl.ErrRange, nsnTo(i, -1))
		add(rankOfNumbers(i), "a Nsn above the bounds", impl.ErrRange, nsnTo(i, 100001))
		add(rankOfNumbers(i), "the least Nsn", impl.ErrRange, nsnTo(i, math.MinInt64))
		add(rankOfNumbers(i), "the most Nsn", impl.ErrRange, nsnTo(i, math.MaxInt64))
		for k := range i {
			add(rankOfTaken, fmt.Sprint("the Ref of ", k), impl.ErrTaken, alike(k, i))
		}
	}
	return all
}

func listTurns() []listTurn {
	return append(listHeadTurns(), listEntryTurns()...)
}

func listFaults() []listCase {
	list := []listCase{
		{"boxes of two dims in three", spoilt(askedAs(3)), impl.ErrMany},
		{"the last of eight has no box", asked{append(rightList(3, 7), impl.Entry{}), 3}, impl.ErrMany},
		{"the last of eight has the first one's Ref", asked{append(rightList(3, 7), entryOf(30, 2, rightBox(3))), 3}, impl.ErrTaken},
		{"one entry without a box", asked{make([]impl.Entry, 1), 2}, impl.ErrMany},
		{"one entry turned over", asked{[]impl.Entry{entryOf(1, 0, rectForm)}, 2}, impl.ErrForm},
		{"two entries with one Ref", asked{[]impl.Entry{entryOf(0, 0, flat(0, 0, 1, 1)), entryOf(0, 7, flat(5, 5, 6, 6))}, 2}, impl.ErrTaken},
		{"one entry alike twice", asked{[]impl.Entry{entryOf(7, 7, flat(0, 0, 1, 1)), entryOf(7, 7, flat(0, 0, 1, 1))}, 2}, impl.ErrTaken},
		{"no entries, and one dim", asked{nil, 1}, impl.ErrRange},
		{"no entries, and four dims", asked{nil, 4}, impl.ErrRange},
	}
	for _, c := range listTurns() {
		list = append(list, listCase{c.name, spoilt(c.turn), c.want})
	}
	return list
}

// Where two are so at once, the one that is asked first is told. It is turned
// last, so that it is so whatever the other one does.
func listFaultsAtOnce() []listCase {
	var list []listCase
	for _, early := range listTurns() {
		for _, late := range listTurns() {
			if early.rank < late.rank {
				list = append(list, listCase{early.name + " ahead of: " + late.name, spoilt(late.turn, early.turn), early.want})
			}
		}
	}
	return list
}

func allListFaults() []listCase {
	return append(listFaults(), listFaultsAtOnce()...)
}

func wantPartsCode(t *testing.T, what string, got impl.PartsResult, want int64) {
	t.Helper()
	if got.Code != want || len(got.First) != 0 || len(got.Second) != 0 {
		t.Errorf("%s: %v, not the code %d alone", what, got, want)
	}
}

func wantEntriesCode(t *testing.T, what string, got impl.EntriesResult, want int64) {
	t.Helper()
	if got.Code != want || len(got.Entries) != 0 {
		t.Errorf("%s: %v, not the code %d alone", what, got, want)
	}
}

// sayNotSplit asks the splits and what is asked of them, and wants just this
// code.
func sayNotSplit(t *testing.T, a asked, want int64) {
	t.Helper()
	if got := impl.SeedsOf(a.list, a.dims); got.Code != want || len(got.List) != 0 {
		t.Errorf("SeedsOf: %v, not the code %d alone", got, want)
	}
	sayCode(t, "AxisOf", impl.AxisOf(a.list, a.dims), want)
	wantPartsCode(t, "SplitQuad", impl.SplitQuad(a.list, a.dims), want)
	wantPartsCode(t, "SplitStar", impl.SplitStar(a.list, a.dims), want)
	wantPartsCode(t, "SplitBy StyleQuad", impl.SplitBy(impl.StyleQuad, a.list, a.dims), want)
	wantPartsCode(t, "SplitBy StyleStar", impl.SplitBy(impl.StyleStar, a.list, a.dims), want)
}

// sayListFault asks all that is asked of a list with a fault, with other
// arguments that are right and that are not, and wants just this code.
func sayListFault(t *testing.T, a asked, want int64) {
	t.Helper()
	if got := impl.EntriesFault(a.list, a.dims); got != want {
		t.Errorf("EntriesFault: %d, not %d", got, want)
	}
	sayNotSplit(t, a, want)
	for _, r := range []impl.Rect{rightBox(2), rightBox(3), rectForm, rectMany, rectRange, {}} {
		sayCode(t, "ChooseEntry", impl.ChooseEntry(a.list, a.dims, r), want)
	}
	for _, axis := range []int64{0, 1, -1, 4} {
		wantEntriesCode(t, "SortAxis", impl.SortAxis(a.list, a.dims, axis), want)
	}
}

func TestListWithAFault(t *testing.T) {
	for _, c := range allListFaults() {
		t.Run(c.name, func(t *testing.T) {
			sayListFault(t, c.a, c.want)
		})
	}
}

// Each fault of a box, at each place of a list.
func TestFaultOfABoxInAList(t *testing.T) {
	for _, c := range append(ownFaults(), otherFaults()...) {
		if c.dims != 2 && c.dims != 3 {
			continue
		}
		t.Run(c.name, func(t *testing.T) {
			for i := range 8 {
				list := rightList(c.dims, 8)
				list[i].Rect = c.r
				sayListFault(t, asked{list, c.dims}, c.want)
			}
		})
	}
}

// A Ref that is there twice, at each two places of a list.
func TestRefTwiceInAList(t *testing.T) {
	for dims := int64(2); dims <= 3; dims++ {
		for k := range 8 {
			for i := range k {
				list := rightList(dims, 8)
				list[k].Ref = list[i].Ref
				sayListFault(t, asked{list, dims}, impl.ErrTaken)
			}
		}
	}
}

func TestRightLists(t *testing.T) {
	for dims := int64(2); dims <= 3; dims++ {
		for count := range 9 {
			if got := impl.EntriesFault(rightList(dims, count), dims); got != impl.OK {
				t.Errorf("%d entries, %d dims: %d", count, dims, got)
			}
		}
		list := []impl.Entry{entryOf(0, 0, utmostBox(dims)), entryOf(999, 100000, utmostBox(dims))}
		if got := impl.EntriesFault(list, dims); got != impl.OK {
			t.Errorf("at the bounds, %d dims: %d", dims, got)
		}
	}
}

// The dims alone tell how many numbers a box has to have.
func TestDimsOfAList(t *testing.T) {
	for dims := int64(-1); dims <= 5; dims++ {
		for of := int64(2); of <= 3; of++ {
			want := int64(impl.ErrMany)
			if dims < 2 || dims > 3 {
				want = impl.ErrRange
			} else if dims == of {
				want = impl.OK
			}
			list := rightList(of, 8)
			if got := impl.EntriesFault(list, dims); got != want {
				t.Errorf("boxes of %d dims as %d: %d, not %d", of, dims, got, want)
			}
			if want != impl.OK {
				sayListFault(t, asked{list, dims}, want)
			}
		}
	}
}

func TestTooFewToSplit(t *testing.T) {
	for dims := int64(2); dims <= 3; dims++ {
		for count := range 4 {
			sayNotSplit(t, asked{rightList(dims, count), dims}, impl.ErrMany)
		}
		sayNotSplit(t, asked{[]impl.Entry{}, dims}, impl.ErrMany)
		for count := 4; count <= 8; count++ {
			list := rightList(dims, count)
			codes := []int64{
				impl.SeedsOf(list, dims).Code, impl.AxisOf(list, dims).Code, impl.SplitQuad(list, dims).Code, impl.SplitStar(list, dims).Code,
				impl.SplitBy(impl.StyleQuad, list, dims).Code, impl.SplitBy(impl.StyleStar, list, dims).Code,
			}
			if slices.Max(codes) != impl.OK || slices.Min(codes) != impl.OK {
				t.Errorf("%d entries, %d dims: %v", count, dims, codes)
			}
		}
	}
}

// The fault of the box is told ahead of there being no entry.
func TestFaultOfTheBoxToChooseFor(t *testing.T) {
	for _, c := range append(ownFaults(), otherFaults()...) {
		if c.dims != 2 && c.dims != 3 {
			continue
		}
		for count := range 9 {
			sayCode(t, c.name, impl.ChooseEntry(rightList(c.dims, count), c.dims, c.r), c.want)
		}
	}
}

func TestNoEntryToChoose(t *testing.T) {
	for dims := int64(2); dims <= 3; dims++ {
		for _, r := range []impl.Rect{rightBox(dims), entryBox(dims, 0), utmostBox(dims)} {
			sayCode(t, "nil", impl.ChooseEntry(nil, dims, r), impl.ErrNone)
			sayCode(t, "an empty list", impl.ChooseEntry([]impl.Entry{}, dims, r), impl.ErrNone)
		}
	}
}

func TestAxisThatIsNotThere(t *testing.T) {
	for dims := int64(2); dims <= 3; dims++ {
		for count := range 9 {
			for _, axis := range []int64{-1, dims, dims + 1, 1 << 32, math.MinInt64, math.MaxInt64} {
				wantEntriesCode(t, fmt.Sprint("SortAxis ", axis), impl.SortAxis(rightList(dims, count), dims, axis), impl.ErrRange)
			}
			for axis := range dims {
				if got := impl.SortAxis(rightList(dims, count), dims, axis); got.Code != impl.OK || len(got.Entries) != count {
					t.Errorf("SortAxis %d of %d entries: %v", axis, count, got)
				}
			}
		}
	}
}

func TestStyleThatIsNone(t *testing.T) {
	for _, style := range []int64{-1, 2, 3, 1 << 32, 1<<32 + 1, math.MinInt64, math.MaxInt64} {
		for _, c := range allListFaults() {
			wantPartsCode(t, c.name, impl.SplitBy(style, c.a.list, c.a.dims), impl.ErrRange)
		}
		for count := range 9 {
			wantPartsCode(t, fmt.Sprint(count, " entries"), impl.SplitBy(style, rightList(3, count), 3), impl.ErrRange)
		}
	}
}
