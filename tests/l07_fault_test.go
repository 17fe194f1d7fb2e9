package tests

import (
	"fmt"
	"math"
	"slices"
	"testing"

	"loop.example/g00680/impl"
)

// putArgs are the arguments of one call of each function of chapter 7.
type putArgs struct {
	t impl.Tree
	p impl.Pair
}

// putTurn makes arguments with a fault of right ones, or of those that have
// another fault already. Of two turns the one with the lesser rank is named
// first in the chapter.
type putTurn struct {
	rank int
	name string
	want int64
	turn func(x *putArgs)
}

// Two codes of one box are never told beside each other: they have one rank.
const (
	rankOfPutTree = iota
	rankOfPairId
	rankOfPairRect
	rankOfPairTaken
	rankOfPutFull
)

func rightPutArgs(dims int64) putArgs {
	return putArgs{threeLevels(dims), pairOf(500, rightBox(dims))}
}

func (x putArgs) turned(turns ...putTurn) putArgs {
	x.t, x.p = cloneTree(x.t), clonePair(x.p)
	for _, c := range turns {
		c.turn(&x)
	}
	return x
}

// leafAt is the first leaf of the walk, or the last one.
func leafAt(t impl.Tree, first bool) *impl.Node {
	met := tourOf(t).met
	for i := range met {
		id := met[len(met)-1-i]
		if first {
			id = met[i]
		}
		if t.Arena.Nodes[id].Level == 0 {
			return &t.Arena.Nodes[id]
		}
	}
	return nil
}

func putTreeTurns() []putTurn {
	turn := func(name string, want int64, turn func(t *impl.Tree)) putTurn {
		return putTurn{rankOfPutTree, name, want, func(x *putArgs) { turn(&x.t) }}
	}
	return []putTurn{
		turn("no dims", impl.ErrRange, func(t *impl.Tree) { t.Arena.Dims = 0 }),
		turn("too few places", impl.ErrMany, func(t *impl.Tree) { t.Arena.Nodes = t.Arena.Nodes[:3] }),
		turn("a node with six entries", impl.ErrMany, func(t *impl.Tree) { t.Arena.Nodes[t.Root].Entries = make([]impl.Entry, 6) }),
		turn("a leaf whose entry has a Nsn", impl.ErrForm, func(t *impl.Tree) { leafAt(*t, false).Entries[0].Nsn = 1 }),
		turn("a leaf with one Ref twice", impl.ErrTaken, func(t *impl.Tree) { l := leafAt(*t, true); l.Entries[1].Ref = l.Entries[0].Ref }),
		turn("a root among the free ones", impl.ErrForm, func(t *impl.Tree) { t.Arena.Free = []int64{t.Root} }),
		turn("a place retired twice", impl.ErrTaken, func(t *impl.Tree) { t.Arena.Retired = []impl.Retired{retiredAt(t.Root, 1), retiredAt(t.Root, 1)} }),
		turn("no style", impl.ErrRange, func(t *impl.Tree) { t.Style = 2 }),
		turn("no root", impl.ErrRange, func(t *impl.Tree) { t.Root = impl.NoNode }),
		turn("a RootNsn above its bounds", impl.ErrRange, func(t *impl.Tree) { t.RootNsn = impl.MaxNsn + 1 }),
		turn("a Counter above its bounds", impl.ErrRange, func(t *impl.Tree) { t.Counter = impl.MaxNsn + 1 }),
		turn("a RootNsn that is not the root's", impl.ErrState, func(t *impl.Tree) { t.RootNsn++ }),
		turn("a root that is retired", impl.ErrState, func(t *impl.Tree) { t.Arena.Retired = append(t.Arena.Retired, retiredAt(t.Root, 1)) }),
		turn("a box that is not the entry's", impl.ErrState, func(t *impl.Tree) { leafAt(*t, false).Entries[0].Rect = utmostBox(t.Arena.Dims) }),
	}
}

func putPairTurns() []putTurn {
	var list []putTurn
	for _, id := range []int64{-1, 1000, -2, 1001, 1<<32 + 7, math.MinInt64, math.MaxInt64} {
		list = append(list, putTurn{rankOfPairId, fmt.Sprint("the Id ", id), impl.ErrRange, func(x *putArgs) { x.p.Id = id }})
	}
	rect := func(name string, want int64, turn func(r *impl.Rect)) {
		list = append(list, putTurn{rankOfPairRect, name, want, func(x *putArgs) { turn(&x.p.Rect) }})
	}
	rect("no box", impl.ErrMany, func(r *impl.Rect) { *r = impl.Rect{} })
	rect("a box of one dimension", impl.ErrMany, func(r *impl.Rect) { r.Low, r.High = r.Low[:1], r.High[:1] })
	rect("a box of one more dimension", impl.ErrMany, func(r *impl.Rect) { r.Low, r.High = append(r.Low, 0), append(r.High, 1) })
	rect("no High", impl.ErrMany, func(r *impl.Rect) { r.High = nil })
	rect("Low below its bounds", impl.ErrRange, func(r *impl.Rect) { r.Low[1] = -1001 })
	rect("High above its bounds", impl.ErrRange, func(r *impl.Rect) { r.High[0] = 1001 })
	rect("Low above High", impl.ErrForm, func(r *impl.Rect) { r.Low[1] = r.High[1] + 1 })
	rect("Low above High, at the end", impl.ErrForm, func(r *impl.Rect) { r.Low[len(r.Low)-1] = r.High[len(r.Low)-1] + 1 })
	for _, first := range []bool{true, false} {
		list = append(list,
			putTurn{rankOfPairTaken, "a pair that is there", impl.ErrTaken, func(x *putArgs) {
				e := leafAt(x.t, first).Entries[1]
				x.p = clonePair(pairOf(e.Ref, e.Rect))
			}},
			putTurn{rankOfPairTaken, "an Id that is there, with another box", impl.ErrTaken, func(x *putArgs) {
				x.p.Id = leafAt(x.t, first).Entries[0].Ref
			}})
	}
	return list
}

// keepFree retires free places, from the last one on or from the first one on,
// until just so many are free.
func keepFree(t *impl.Tree, count int, last bool) {
	for len(t.Arena.Free) > count {
		i := 0
		if last {
			i = len(t.Arena.Free) - 1
		}
		t.Arena.Retired = append(t.Arena.Retired, retiredAt(t.Arena.Free[i], 1, 3))
		t.Arena.Free = slices.Delete(t.Arena.Free, i, i+1)
	}
}

func putFullTurns() []putTurn {
	turn := func(name string, turn func(x *putArgs)) putTurn {
		return putTurn{rankOfPutFull, name, impl.ErrFull, turn}
	}
	return []putTurn{
		turn("one free place too few", func(x *putArgs) { keepFree(&x.t, 3, true) }),
		turn("one free place too few, the last ones", func(x *putArgs) { keepFree(&x.t, 3, false) }),
		turn("no free place", func(x *putArgs) { keepFree(&x.t, 0, true) }),
		turn("a Counter one too great", func(x *putArgs) { x.t.Counter = impl.MaxNsn - 3 }),
		turn("the greatest Counter", func(x *putArgs) { x.t.Counter = impl.MaxNsn }),
		turn("as many pairs as may be", func(x *putArgs) { x.t = fullTrees(x.t.Arena.Dims)[0] }),
		turn("more pairs than may be", func(x *putArgs) { x.t = crowdedTrees(x.t.Arena.Dims)[0] }),
	}
}

func putTurns() []putTurn {
	return slices.Concat(putTreeTurns(), putPairTurns(), putFullTurns())
}

// putCase is a call that tells a code.
type putCase struct {
	name string
	x    putArgs
	want int64
}

func putFaults() []putCase {
	list := []putCase{{"the zero values", putArgs{}, impl.ErrRange}, {"no tree", putArgs{p: pairOf(1, flat(0, 0, 1, 1))}, impl.ErrRange}}
	for dims := int64(2); dims <= 3; dims++ {
		for _, c := range putTurns() {
			list = append(list, putCase{c.name, rightPutArgs(dims).turned(c), c.want})
		}
	}
	return list
}

// Where two are so at once, the one that the chapter names first is told. It is
// turned last, so that it is so whatever the other one does.
func putFaultsAtOnce() []putCase {
	var list []putCase
	for _, early := range putTurns() {
		for _, late := range putTurns() {
			if early.rank < late.rank {
				x := rightPutArgs(2 + int64(len(list)%2))
				list = append(list, putCase{early.name + " ahead of: " + late.name, x.turned(late, early), early.want})
			}
		}
	}
	return list
}

func TestPutThatCannotBe(t *testing.T) {
	for dims := int64(2); dims <= 3; dims++ {
		x := rightPutArgs(dims)
		if got := sayPut(t, "what is turned", x.t, x.p); got.Code != impl.OK {
			t.Fatalf("the code %d", got.Code)
		}
	}
	for _, c := range append(putFaults(), putFaultsAtOnce()...) {
		sayNotPut(t, c.name, c.x.t, c.x.p, c.want)
	}
}

// Each fault of a tree, whatever is wrong with the pair.
func TestPutIntoATreeWithAFault(t *testing.T) {
	ask := func(name string, tr impl.Tree, want int64) {
		t.Helper()
		for _, p := range []impl.Pair{pairOf(500, rightBox(2)), pairOf(500, rightBox(3)), pairOf(30, rightBox(2)), pairOf(-1, rectForm), {}} {
			sayNotPut(t, name, tr, p, want)
		}
	}
	for _, c := range append(treeFaults(), treeFaultsAtOnce()...) {
		ask(c.name, c.t, c.want)
	}
	for dims := int64(2); dims <= 3; dims++ {
		for _, c := range stateCases(dims) {
			ask(c.name, c.t, impl.ErrState)
		}
	}
	for _, c := range allArenaFaults() {
		ask(c.name, impl.Tree{Arena: c.a, Counter: 100}, c.want)
	}
}

// The box is asked by the dims of the arena, not by those of its own.
func TestFaultOfTheBoxThatIsPutIn(t *testing.T) {
	for _, c := range append(ownFaults(), otherFaults()...) {
		if c.dims != 2 && c.dims != 3 {
			continue
		}
		for _, tr := range []impl.Tree{oneLevel(c.dims, 0), threeLevels(c.dims), fullTrees(c.dims)[0]} {
			sayNotPut(t, c.name, tr, pairOf(500, c.r), c.want)
			sayNotPut(t, c.name, tr, pairOf(30, c.r), c.want)
		}
	}
}

// Just the Refs of the leaves of the tree are taken: not those that nodes above
// have alone, and not those that stand in a retired leaf alone.
func TestWhichIdsAreTaken(t *testing.T) {
	for dims := int64(2); dims <= 3; dims++ {
		for _, tr := range []impl.Tree{oneLevel(dims, 4), twoLevels(dims), threeLevels(dims)} {
			there := idsOf(tourOf(tr).pairs)
			for id := range int64(1000) {
				p := pairOf(id, idBox(dims, id))
				want := int64(impl.OK)
				if slices.Contains(there, id) {
					want = impl.ErrTaken
				}
				if got := impl.PutTrace(tr, p); got.Code != want {
					t.Fatalf("the Id %d: the code %d, not %d", id, got.Code, want)
				}
			}
		}
		for _, c := range []struct {
			t   impl.Tree
			ids []int64
		}{{oneLevel(dims, 0), []int64{30, 31, 32, 2, 39, 0}}, {twoLevels(dims), []int64{8, 2, 7, 9, 10}}, {threeLevels(dims), []int64{14, 16, 7, 5}}} {
			for _, id := range c.ids {
				if got := sayPut(t, fmt.Sprint("the Id ", id), c.t, pairOf(id, rightBox(dims))); got.Code != impl.OK {
					t.Errorf("the Id %d: the code %d", id, got.Code)
				}
			}
		}
	}
}

// treesWithRoom have one to five levels and more free places than are needed.
func treesWithRoom(dims int64) []impl.Tree {
	return []impl.Tree{
		impl.NewTree(dims, impl.StyleStar, 7).Tree, roomier(oneLevel(dims, 4), 3), roomier(twoLevels(dims), 2), roomier(threeLevels(dims), 2),
		grown(dims, times(9, 3), []int{2, 2, 3, 2}, []int{2, 2}, []int{2}),
		grown(dims, times(16, 2), times(8, 2), times(4, 2), []int{2, 2}, []int{2}),
	}
}

func wantPutCode(t *testing.T, what string, tr impl.Tree, p impl.Pair, want int64) {
	t.Helper()
	if got := sayPut(t, what, tr, p); got.Code != want {
		t.Fatalf("%s: the code %d, not %d", what, got.Code, want)
	}
}

// Free places are counted, whether they are needed or not; retired ones are
// not free.
func TestHowManyPlacesAreNeeded(t *testing.T) {
	for dims := int64(2); dims <= 3; dims++ {
		for _, tr := range treesWithRoom(dims) {
			need := int(tr.Arena.Nodes[tr.Root].Level) + 2
			for _, last := range []bool{true, false} {
				for count := range len(tr.Arena.Free) + 1 {
					turned := turnedTree(tr, func(x *impl.Tree) { keepFree(x, count, last) })
					want := int64(impl.ErrFull)
					if count >= need {
						want = impl.OK
					}
					for _, p := range manyPairs(dims, 5) {
						wantPutCode(t, fmt.Sprintf("%d of %d places", count, need), turned, pairOf(p.Id/2+202, p.Rect), want)
					}
				}
			}
			if len(tr.Arena.Free) <= need {
				t.Fatalf("%d places are free, but %d are needed", len(tr.Arena.Free), need)
			}
		}
	}
}

// The Counter has to have room for as many numbers, whether they are given or
// not.
func TestHowManyNumbersAreNeeded(t *testing.T) {
	for dims := int64(2); dims <= 3; dims++ {
		for _, tr := range treesWithRoom(dims) {
			need := tr.Arena.Nodes[tr.Root].Level + 2
			for less := int64(0); less <= need+2; less++ {
				turned := turnedTree(tr, func(x *impl.Tree) { x.Counter = impl.MaxNsn - less })
				want := int64(impl.ErrFull)
				if less >= need {
					want = impl.OK
				}
				for _, p := range manyPairs(dims, 5) {
					wantPutCode(t, fmt.Sprintf("%d of %d numbers", less, need), turned, pairOf(p.Id/2+202, p.Rect), want)
				}
			}
		}
	}
}

// almostFull have one pair fewer than as many as may be.
func almostFull(dims int64) []impl.Tree {
	return []impl.Tree{
		grown(dims, append(times(14, 4), 3), []int{4, 4, 4, 3}, []int{4}),
		grown(dims, append(times(19, 3), 2), times(5, 4), []int{3, 2}, []int{2}),
	}
}

// newIds are the Ids that no pair of the tree has.
func newIds(tr impl.Tree) []int64 {
	there := idsOf(tourOf(tr).pairs)
	var list []int64
	for id := range int64(1000) {
		if !slices.Contains(there, id) {
			list = append(list, id)
		}
	}
	return list
}

func TestHowManyPairsThereMayBe(t *testing.T) {
	for dims := int64(2); dims <= 3; dims++ {
		for _, p := range manyPairs(dims, 9) {
			for _, tr := range almostFull(dims) {
				ids := newIds(tr)
				if len(ids) != 1000-59 {
					t.Fatalf("%d Ids are new", len(ids))
				}
				p.Id = ids[p.Id%900]
				wantPutCode(t, "one more", tr, p, impl.OK)
				p.Id = ids[len(ids)-1]
				wantPutCode(t, "one more", tr, p, impl.OK)
				wantPutCode(t, "two more", impl.PutInto(tr, p).Tree, pairOf(ids[0], p.Rect), impl.ErrFull)
			}
			for _, tr := range append(fullTrees(dims), crowdedTrees(dims)...) {
				wantPutCode(t, "too many", tr, pairOf(newIds(tr)[p.Id%800], p.Rect), impl.ErrFull)
			}
		}
	}
}

// A tree that may be anything is answered with the code that the model tells,
// and without a panic.
func TestPutIntoAMaze(t *testing.T) {
	m := &maze{}
	for range 3000 {
		tr := m.tree()
		p := pairOf(m.number(), impl.Rect{Low: m.point(), High: m.point()})
		sayPut(t, "a maze", tr, p)
		if impl.ArenaFault(tr.Arena) == impl.OK {
			sayPut(t, "a maze that is fitted", fitted(tr), pairOf(500, rightBox(2)))
		}
	}
	for _, tr := range sameTreesToAsk() {
		sayPut(t, "any tree", tr, pairOf(500, rightBox(2)))
		sayPut(t, "any tree", tr, pairOf(500, rightBox(3)))
		sayPut(t, "any tree", tr, impl.Pair{})
	}
}
