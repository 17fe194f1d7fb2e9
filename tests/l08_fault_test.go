package tests

import (
	"fmt"
	"math"
	"slices"
	"testing"

	"loop.example/g00680/impl"
)

// dropArgs are the arguments of one call of each function of chapter 8.
type dropArgs struct {
	t     impl.Tree
	p     impl.Pair
	watch []int64
}

// dropTurn makes arguments with a fault of right ones, or of those that have
// another fault already. Of two turns the one with the lesser rank is named
// first in the chapter.
type dropTurn struct {
	rank int
	name string
	want int64
	turn func(x *dropArgs)
}

// Two codes of one box, and two of who watches, have ranks of their own only
// where both can be so at once.
const (
	rankOfDropTree = iota
	rankOfDropId
	rankOfDropRect
	rankOfDropNone
	rankOfWatchMany
	rankOfWatchRange
	rankOfWatchForm
)

// loudDropArgs take a pair out of a leaf that has two, so that a leaf is
// retired.
func loudDropArgs(dims int64) dropArgs {
	return dropArgs{threeLevels(dims), withIdsAlone(dims, 50)[0], []int64{0, 2}}
}

// quietDropArgs take a pair out of a leaf that has four, so that no node is
// retired.
func quietDropArgs(dims int64) dropArgs {
	return dropArgs{threeLevels(dims), withIdsAlone(dims, 3)[0], []int64{0, 2}}
}

func rightDropArgs(dims int64) []dropArgs {
	return []dropArgs{loudDropArgs(dims), quietDropArgs(dims)}
}

func (x dropArgs) turned(turns ...dropTurn) dropArgs {
	x.t, x.p, x.watch = cloneTree(x.t), clonePair(x.p), slices.Clone(x.watch)
	for _, c := range turns {
		c.turn(&x)
	}
	return x
}

// The faults of a tree, and of a pair alone, are those of which putting it in
// was asked.
func dropTurnsAsPut() []dropTurn {
	ranks := map[int]int{rankOfPutTree: rankOfDropTree, rankOfPairId: rankOfDropId, rankOfPairRect: rankOfDropRect}
	var list []dropTurn
	for _, c := range putTurns() {
		rank, also := ranks[c.rank]
		if !also {
			continue
		}
		list = append(list, dropTurn{rank, c.name, c.want, func(x *dropArgs) {
			put := putArgs{x.t, x.p}
			c.turn(&put)
			x.t, x.p = put.t, put.p
		}})
	}
	return list
}

func dropNoneTurns() []dropTurn {
	turn := func(name string, turn func(x *dropArgs)) dropTurn {
		return dropTurn{rankOfDropNone, name, impl.ErrNone, turn}
	}
	return []dropTurn{
		turn("an Id that none has", func(x *dropArgs) { x.p.Id = 500 }),
		turn("the Id of another pair", func(x *dropArgs) { x.p.Id = 20 }),
		turn("the Id of a pair of another leaf", func(x *dropArgs) { x.p.Id = 999 }),
		turn("a box that is greater", func(x *dropArgs) { x.p.Rect.High[1]++ }),
		turn("a box that is smaller", func(x *dropArgs) { x.p.Rect.Low[0]++ }),
		turn("the box of another pair", func(x *dropArgs) { x.p.Rect = idBox(x.t.Arena.Dims, 20) }),
		turn("a box of nobody", func(x *dropArgs) { x.p.Rect = rightBox(x.t.Arena.Dims) }),
		turn("the Ref and the box of an entry of a node", func(x *dropArgs) {
			e := x.t.Arena.Nodes[3].Entries[0]
			x.p = clonePair(pairOf(e.Ref, e.Rect))
		}),
		turn("the Ref and the box of an entry of the root", func(x *dropArgs) {
			e := x.t.Arena.Nodes[10].Entries[1]
			x.p = clonePair(pairOf(e.Ref, e.Rect))
		}),
		turn("a pair of a retired leaf alone", func(x *dropArgs) {
			x.p.Id = 501
			x.t.Arena.Nodes[6].Entries = append(x.t.Arena.Nodes[6].Entries, entryOf(501, 0, clonePair(x.p).Rect))
		}),
	}
}

func watchTurns() []dropTurn {
	turn := func(rank int, name string, want int64, watch ...int64) dropTurn {
		return dropTurn{rank, name, want, func(x *dropArgs) { x.watch = watch }}
	}
	return []dropTurn{
		turn(rankOfWatchMany, "five watch", impl.ErrMany, 0, 1, 2, 3, 4),
		turn(rankOfWatchMany, "five watch, all of them clients", impl.ErrMany, 0, 1, 2, 3, 3),
		turn(rankOfWatchMany, "five watch, one below 0", impl.ErrMany, -1, 0, 1, 2, 3),
		turn(rankOfWatchMany, "far too many watch", impl.ErrMany, make([]int64, 1000)...),
		turn(rankOfWatchRange, "one below 0 watches", impl.ErrRange, -1),
		turn(rankOfWatchRange, "no client watches", impl.ErrRange, 4),
		turn(rankOfWatchRange, "no client watches at the end", impl.ErrRange, 0, 1, 2, 4),
		turn(rankOfWatchRange, "the least watches", impl.ErrRange, math.MinInt64),
		turn(rankOfWatchRange, "the most watches", impl.ErrRange, 0, math.MaxInt64),
		turn(rankOfWatchRange, "1 in 32 bits watches", impl.ErrRange, 1<<32+1),
		turn(rankOfWatchRange, "no client, and falling", impl.ErrRange, 4, 1),
		turn(rankOfWatchRange, "no client twice", impl.ErrRange, 4, 4),
		turn(rankOfWatchRange, "falling below 0", impl.ErrRange, 1, 0, -1),
		turn(rankOfWatchForm, "who watches falls", impl.ErrForm, 3, 1),
		turn(rankOfWatchForm, "one watches twice", impl.ErrForm, 2, 2),
		turn(rankOfWatchForm, "who watches falls at the end", impl.ErrForm, 0, 1, 3, 2),
		turn(rankOfWatchForm, "who watches falls at the beginning", impl.ErrForm, 1, 0, 2, 3),
		turn(rankOfWatchForm, "one watches twice, not side by side", impl.ErrForm, 0, 3, 0),
	}
}

// wrongWatches are all told by a code.
func wrongWatches() [][]int64 {
	var list [][]int64
	for _, c := range watchTurns() {
		var x dropArgs
		c.turn(&x)
		list = append(list, x.watch)
	}
	return list
}

func dropTurns() []dropTurn {
	return slices.Concat(dropTurnsAsPut(), dropNoneTurns(), watchTurns())
}

// dropCase is a call that tells a code; that of who watches is not told by
// DropFrom.
type dropCase struct {
	name  string
	x     dropArgs
	want  int64
	watch bool
}

func dropFaults() []dropCase {
	list := []dropCase{
		{"the zero values", dropArgs{}, impl.ErrRange, false},
		{"no tree", dropArgs{p: pairOf(1, flat(0, 0, 1, 1)), watch: []int64{5}}, impl.ErrRange, false},
	}
	for dims := int64(2); dims <= 3; dims++ {
		for _, c := range dropTurns() {
			for _, x := range rightDropArgs(dims) {
				list = append(list, dropCase{c.name, x.turned(c), c.want, c.rank >= rankOfWatchMany})
			}
		}
	}
	return list
}

// Where two are so at once, the one that the chapter names first is told. It is
// turned last, so that it is so whatever the other one does.
func dropFaultsAtOnce() []dropCase {
	var list []dropCase
	for _, early := range dropTurns() {
		for _, late := range dropTurns() {
			if early.rank >= late.rank || early.rank >= rankOfWatchMany {
				continue
			}
			for _, x := range rightDropArgs(2 + int64(len(list)/2%2)) {
				list = append(list, dropCase{early.name + " ahead of: " + late.name, x.turned(late, early), early.want, false})
			}
		}
	}
	return list
}

func TestDropThatCannotBe(t *testing.T) {
	for dims := int64(2); dims <= 3; dims++ {
		for i, x := range rightDropArgs(dims) {
			if code, did := sayDrop(t, "what is turned", x.t, x.p, x.watch); code != impl.OK || did.retires() != (i == 0) {
				t.Fatalf("%d: the code %d, %v", i, code, did.did)
			}
		}
	}
	for _, c := range append(dropFaults(), dropFaultsAtOnce()...) {
		wantDropCode(t, c.name, c.x.t, c.x.p, c.x.watch, c.want)
		got := impl.DropFrom(c.x.t, c.x.p)
		if c.watch {
			sayTreeIs(t, c.name, got, modelDrop(c.x.t, c.x.p, nil).t)
		} else {
			wantTreeCode(t, c.name, got, c.want)
		}
	}
}

// quietDrops take pairs out without retiring a node.
func quietDrops(dims int64) []dropArgs {
	return []dropArgs{
		quietDropArgs(dims),
		{oneLevel(dims, 1), withIdsAlone(dims, 30)[0], nil},
		{oneLevel(dims, 4), withIdsAlone(dims, 999)[0], nil},
		{twoLevels(dims), withIdsAlone(dims, 39)[0], nil},
		{grown(dims, []int{2, 4}, []int{2}), manyPairs(dims, 6)[1], nil},
		{grown(dims, []int{4, 2}, []int{2}), manyPairs(dims, 6)[4], nil},
	}
}

// loudDrops retire a node below the root, two of them, or the root.
func loudDrops(dims int64) []dropArgs {
	return []dropArgs{
		loudDropArgs(dims),
		{threeLevels(dims), withIdsAlone(dims, 999)[0], nil},
		{grown(dims, []int{2, 2}, []int{2}), manyPairs(dims, 4)[2], nil},
		{grown(dims, []int{3, 2, 3}, []int{3}), manyPairs(dims, 8)[3], nil},
		{grown(dims, times(16, 2), times(8, 2), times(4, 2), []int{2, 2}, []int{2}), manyPairs(dims, 32)[17], nil},
	}
}

// sayWatchCodes wants the code of each watch that is wrong. DropFrom, which has
// nobody who watches, is asked beside it.
func sayWatchCodes(t *testing.T, what string, tr impl.Tree, p impl.Pair) {
	t.Helper()
	for _, c := range watchTurns() {
		x := dropArgs{tr, p, nil}.turned(c)
		wantDropCode(t, what+": "+c.name, x.t, x.p, x.watch, c.want)
		sayDrop(t, what+": "+c.name, x.t, x.p, x.watch)
	}
}

// Nobody is told of a node that is not retired, but whether who watches may
// watch is asked all the same.
func TestWrongWatchWhereNothingIsRetired(t *testing.T) {
	for dims := int64(2); dims <= 3; dims++ {
		for i, x := range quietDrops(dims) {
			want := impl.DropTrace(x.t, x.p, nil)
			if want.Code != impl.OK || modelDrop(x.t, x.p, nil).retires() {
				t.Fatalf("%d: the code %d", i, want.Code)
			}
			sayWatchCodes(t, fmt.Sprint(i), x.t, x.p)
			for _, watch := range watches() {
				sayDropTrace(t, fmt.Sprint(i, " watched by ", watch), impl.DropTrace(x.t, x.p, watch), want.Trees, want.Moves)
				sayDrop(t, fmt.Sprint(i, " watched by ", watch), x.t, x.p, watch)
			}
		}
	}
}

func TestWrongWatchWhereANodeIsRetired(t *testing.T) {
	for dims := int64(2); dims <= 3; dims++ {
		for i, x := range loudDrops(dims) {
			if !modelDrop(x.t, x.p, nil).retires() {
				t.Fatalf("%d: nothing is retired", i)
			}
			sayWatchCodes(t, fmt.Sprint(i), x.t, x.p)
			for _, watch := range watches() {
				sayDrop(t, fmt.Sprint(i, " watched by ", watch), x.t, x.p, watch)
			}
		}
	}
}

// Each pair of a tree that was put together pair by pair, from one on; who
// watches is asked behind whether there is such a pair.
func TestWrongWatchOfEachPair(t *testing.T) {
	for dims := int64(2); dims <= 3; dims++ {
		loud, quiet := 0, 0
		pairs := manyPairs(dims, 14)
		tr := impl.NewTree(dims, impl.StyleQuad, 16).Tree
		for count, p := range pairs {
			tr = impl.PutInto(tr, p).Tree
			for i, gone := range pairs {
				if i > count {
					sayNotDropped(t, "what is not there yet", tr, gone, impl.ErrNone)
					continue
				}
				sayWatchCodes(t, fmt.Sprint(count, " pairs, the pair ", i), tr, gone)
				if modelDrop(tr, gone, nil).retires() {
					loud++
				} else {
					quiet++
				}
			}
		}
		if loud < 5 || quiet < 50 {
			t.Errorf("%d loud ones, %d quiet ones", loud, quiet)
		}
	}
}

// Each fault of a tree, whatever is wrong with the pair and with who watches.
func TestDropFromATreeWithAFault(t *testing.T) {
	ask := func(name string, tr impl.Tree, want int64) {
		t.Helper()
		for _, p := range []impl.Pair{withIdsAlone(2, 30)[0], withIdsAlone(3, 30)[0], pairOf(500, rightBox(2)), pairOf(-1, rectForm), {}} {
			sayNotDropped(t, name, tr, p, want)
		}
	}
	for _, c := range append(treeFaults(), treeFaultsAtOnce()...) {
		ask(c.name, c.t, c.want)
	}
	for dims := int64(2); dims <= 3; dims++ {
		for _, c := range stateCases(dims) {
			ask(c.name, c.t, impl.ErrState)
		}
	}
	for _, c := range allArenaFaults() {
		ask(c.name, impl.Tree{Arena: c.a, Counter: 100}, c.want)
	}
}

// The box is asked by the dims of the arena, not by those of its own.
func TestFaultOfTheBoxThatIsTakenOut(t *testing.T) {
	for _, c := range append(ownFaults(), otherFaults()...) {
		if c.dims != 2 && c.dims != 3 {
			continue
		}
		for _, tr := range []impl.Tree{oneLevel(c.dims, 1), threeLevels(c.dims), fullTrees(c.dims)[0]} {
			sayNotDropped(t, c.name, tr, pairOf(500, c.r), c.want)
			sayNotDropped(t, c.name, tr, pairOf(30, c.r), c.want)
		}
	}
}

// Just the pairs of the leaves of the tree can be taken out: not what entries
// of nodes above have, and not what stands in a retired leaf alone.
func TestWhichPairsAreThere(t *testing.T) {
	for dims := int64(2); dims <= 3; dims++ {
		for _, tr := range []impl.Tree{oneLevel(dims, 0), oneLevel(dims, 4), twoLevels(dims), threeLevels(dims)} {
			there := idsOf(tourOf(tr).pairs)
			for id := range int64(1000) {
				want := int64(impl.ErrNone)
				if slices.Contains(there, id) {
					want = impl.OK
				}
				if got := impl.DropTrace(tr, pairOf(id, idBox(dims, id)), nil); got.Code != want {
					t.Fatalf("the Id %d: the code %d, not %d", id, got.Code, want)
				}
			}
			for _, n := range tr.Arena.Nodes {
				for _, e := range n.Entries {
					if n.Level > 0 {
						sayNotDropped(t, "what a node above has", tr, pairOf(e.Ref, e.Rect), impl.ErrNone)
					}
				}
			}
		}
		sayNotDropped(t, "what a retired leaf has", oneLevel(dims, 4), withIdsAlone(dims, 31)[0], impl.ErrNone)
		sayNotDropped(t, "what a retired leaf has", twoLevels(dims), withIdsAlone(dims, 7)[0], impl.ErrNone)
	}
}

// Each number of a box tells whether it is the pair's.
func TestAnotherBoxIsNotThere(t *testing.T) {
	for dims := int64(2); dims <= 3; dims++ {
		for _, tr := range []impl.Tree{oneLevel(dims, 4), twoLevels(dims), threeLevels(dims)} {
			for _, p := range tourOf(tr).pairs {
				for axis := range dims {
					for by := int64(-1); by <= 1; by += 2 {
						low, high := clonePair(p), clonePair(p)
						low.Rect.Low[axis] += by
						high.Rect.High[axis] += by
						sayDrop(t, "another Low", tr, low, nil)
						sayDrop(t, "another High", tr, high, nil)
						if impl.DropFrom(tr, low).Code == impl.OK || impl.DropFrom(tr, high).Code == impl.OK {
							t.Fatalf("%v with another box is taken out", p)
						}
					}
				}
			}
		}
	}
}

// More pairs than may be listed are no fault: one of them can be taken out.
func TestDropFromTreesWithManyPairs(t *testing.T) {
	for dims := int64(2); dims <= 3; dims++ {
		for _, tr := range append(fullTrees(dims), crowdedTrees(dims)...) {
			for i, p := range tourOf(tr).pairs {
				if i%9 == 4 {
					if code, _ := sayDrop(t, "of many", tr, p, []int64{1}); code != impl.OK {
						t.Fatalf("the code %d", code)
					}
				}
			}
		}
	}
}

// A tree that may be anything is answered with the code that the model tells,
// and without a panic.
func TestDropFromAMaze(t *testing.T) {
	m := &maze{}
	for range 3000 {
		tr := m.tree()
		p := pairOf(m.number(), impl.Rect{Low: m.point(), High: m.point()})
		sayDrop(t, "a maze", tr, p, []int64{m.number()})
		if impl.ArenaFault(tr.Arena) != impl.OK {
			continue
		}
		tr = fitted(tr)
		sayDrop(t, "a maze that is fitted", tr, p, nil)
		if impl.TreeFault(tr) == impl.OK {
			sayDropEach(t, "a maze that is right", tr, watches()[m.next(16)])
			sayDropEach(t, "a maze that is right", tr, []int64{m.number(), m.number()})
		}
	}
	for _, tr := range sameTreesToAsk() {
		sayDrop(t, "any tree", tr, withIdsAlone(2, 30)[0], nil)
		sayDrop(t, "any tree", tr, withIdsAlone(3, 30)[0], nil)
		sayDrop(t, "any tree", tr, impl.Pair{}, nil)
	}
}

// sayDropEach takes each pair of a right tree out of it, one alone.
func sayDropEach(t *testing.T, what string, tr impl.Tree, watch []int64) {
	t.Helper()
	for _, p := range tourOf(tr).pairs {
		sayDrop(t, what, tr, p, watch)
	}
}

// All right ones among the trees that four places can be laid as.
func TestDropFromSmallTrees(t *testing.T) {
	right := 0
	for i := range int64(12 * 12 * 12 * 12) {
		a, b, c, d := laysAt(0)[i%12], laysAt(1)[i/12%12], laysAt(2)[i/144%12], laysAt(3)[i/1728]
		for root := range int64(4) {
			if tr := smallTree(root, a, b, c, d); impl.TreeFault(tr) == impl.OK {
				right++
				sayDropEach(t, "small", tr, watches()[i%16])
			}
		}
	}
	if right < 20 {
		t.Errorf("%d right trees", right)
	}
}
