package tests

import (
	"fmt"
	"math"
	"slices"
	"testing"

	"loop.example/g00680/impl"
)

// arenaCase is an arena with a fault.
type arenaCase struct {
	name string
	a    impl.Arena
	want int64
}

// arenaTurn makes an arena with a fault of someArena(2). Of two turns the one
// with the lesser rank is named first in the chapter.
type arenaTurn struct {
	rank int
	name string
	want int64
	turn func(a *impl.Arena)
}

func bent(turns ...func(a *impl.Arena)) impl.Arena {
	a := cloneArena(someArena(2))
	for _, turn := range turns {
		turn(&a)
	}
	return a
}

func dimsTo(dims int64) func(a *impl.Arena) {
	return func(a *impl.Arena) { a.Dims = dims }
}

// placesTo lays so many empty nodes, more or fewer than may be.
func placesTo(count int) func(a *impl.Arena) {
	return func(a *impl.Arena) {
		a.Nodes = nil
		for range count {
			a.Nodes = append(a.Nodes, vacant())
		}
	}
}

func nodeTo(id int64, n impl.Node) func(a *impl.Arena) {
	return func(a *impl.Arena) { a.Nodes[id] = n }
}

func freeTo(ids ...int64) func(a *impl.Arena) {
	return func(a *impl.Arena) { a.Free = ids }
}

func retiredTo(i int, r impl.Retired) func(a *impl.Arena) {
	return func(a *impl.Arena) { a.Retired[i] = r }
}

func alsoRetired(list ...impl.Retired) func(a *impl.Arena) {
	return func(a *impl.Arena) { a.Retired = append(a.Retired, list...) }
}

func headTurns() []arenaTurn {
	return []arenaTurn{
		{1, "no Dims", impl.ErrRange, dimsTo(0)},
		{1, "one dim", impl.ErrRange, dimsTo(1)},
		{1, "four Dims", impl.ErrRange, dimsTo(4)},
		{1, "Dims below 0", impl.ErrRange, dimsTo(-2)},
		{1, "the least Dims", impl.ErrRange, dimsTo(math.MinInt64)},
		{1, "the most Dims", impl.ErrRange, dimsTo(math.MaxInt64)},
		{1, "Dims that are 2 in 32 bits", impl.ErrRange, dimsTo(1<<32 + 2)},
		{2, "no places", impl.ErrMany, placesTo(0)},
		{2, "three places", impl.ErrMany, placesTo(3)},
		{2, "41 places", impl.ErrMany, placesTo(41)},
		{2, "far too many places", impl.ErrMany, placesTo(1000)},
		{3, "boxes of two dims in three", impl.ErrMany, dimsTo(3)},
		{3, "a node's Level", impl.ErrRange, func(a *impl.Arena) { a.Nodes[0].Level = 7 }},
		{3, "the last node's Right", impl.ErrRange, func(a *impl.Arena) { a.Nodes[8].Right = 40 }},
		{3, "a free place's Nsn below 0", impl.ErrRange, func(a *impl.Arena) { a.Nodes[5].Nsn = -1 }},
		{3, "too many entries", impl.ErrMany, nodeTo(3, leafOf(someEntries(0, 2, 6)...))},
		{3, "a retired node's box turned over", impl.ErrForm, nodeTo(6, leafOf(entryOf(1, 0, rectForm)))},
		{3, "a leaf's entry with a Nsn", impl.ErrForm, nodeTo(0, leafOf(entryOf(1, 1, flat(0, 0, 1, 1))))},
		{3, "a Ref twice", impl.ErrTaken, nodeTo(8, leafOf(entryOf(1, 0, flat(0, 0, 1, 1)), entryOf(1, 0, flat(0, 0, 1, 1))))},
	}
}

func freeTurns() []arenaTurn {
	return []arenaTurn{
		{4, "a free place below 0", impl.ErrRange, freeTo(-1, 2, 5, 8)},
		{4, "a free place behind all", impl.ErrRange, freeTo(2, 5, 8, 9)},
		{4, "the least free place", impl.ErrRange, freeTo(math.MinInt64)},
		{4, "the most free place", impl.ErrRange, freeTo(2, math.MaxInt64)},
		{4, "a free place that is 2 in 32 bits", impl.ErrRange, freeTo(1<<32 + 2)},
		{5, "a place free twice", impl.ErrForm, freeTo(2, 2, 5, 8)},
		{5, "the last place free twice", impl.ErrForm, freeTo(2, 5, 8, 8)},
		{5, "free places that fall", impl.ErrForm, freeTo(8, 5, 2)},
		{5, "free places of which one falls", impl.ErrForm, freeTo(2, 8, 5)},
		{5, "a free place twice, not side by side", impl.ErrForm, freeTo(2, 5, 2)},
		{5, "far too many free places", impl.ErrForm, freeTo(slices.Repeat([]int64{2, 5, 8}, 400)...)},
		{5, "a free place whose node has a Level", impl.ErrForm, nodeTo(2, impl.Node{Level: 1, Right: impl.NoNode})},
		{5, "a free place whose node has a Nsn", impl.ErrForm, nodeTo(5, impl.Node{Nsn: 1, Right: impl.NoNode})},
		{5, "a free place whose node has a Right", impl.ErrForm, nodeTo(8, impl.Node{Right: 3})},
		{5, "a free place whose node is the zero value", impl.ErrForm, nodeTo(8, impl.Node{})},
		{5, "a free place whose node has an entry", impl.ErrForm, nodeTo(2, holding(vacant(), someEntries(0, 2, 1)))},
		{5, "a place in use that is free", impl.ErrForm, freeTo(0, 2, 5, 8)},
	}
}

func retiredTurns() []arenaTurn {
	return []arenaTurn{
		{6, "a retired place below 0", impl.ErrRange, retiredTo(0, retiredAt(-1, 1))},
		{6, "a retired place behind all", impl.ErrRange, retiredTo(3, retiredAt(9, 1))},
		{6, "the least retired place", impl.ErrRange, retiredTo(1, retiredAt(math.MinInt64, 1))},
		{6, "the most retired place", impl.ErrRange, retiredTo(1, retiredAt(math.MaxInt64, 1))},
		{6, "a retired place that is 3 in 32 bits", impl.ErrRange, retiredTo(1, retiredAt(1<<32+3, 1))},
		{6, "nobody watches", impl.ErrMany, retiredTo(3, retiredAt(7))},
		{6, "nobody watches the first one", impl.ErrMany, retiredTo(0, impl.Retired{Id: 6, Watch: []int64{}})},
		{6, "five watch", impl.ErrMany, retiredTo(2, retiredAt(4, 0, 1, 2, 3, 4))},
		{6, "far too many watch", impl.ErrMany, retiredTo(2, retiredAt(4, make([]int64, 1000)...))},
		{6, "who watches is below 0", impl.ErrRange, retiredTo(1, retiredAt(1, -1))},
		{6, "who watches is no client", impl.ErrRange, retiredTo(1, retiredAt(1, 4))},
		{6, "the last one who watches is no client", impl.ErrRange, retiredTo(3, retiredAt(7, 0, 1, 2, 4))},
		{6, "the least who watches", impl.ErrRange, retiredTo(1, retiredAt(1, math.MinInt64, 1))},
		{6, "the most who watches", impl.ErrRange, retiredTo(1, retiredAt(1, 1, math.MaxInt64))},
		{6, "who watches is 1 in 32 bits", impl.ErrRange, retiredTo(1, retiredAt(1, 1<<32+1))},
		{6, "one watches twice", impl.ErrForm, retiredTo(0, retiredAt(6, 2, 2))},
		{6, "the last one watches twice", impl.ErrForm, retiredTo(3, retiredAt(7, 0, 3, 3))},
		{6, "who watches falls", impl.ErrForm, retiredTo(2, retiredAt(4, 3, 1))},
		{6, "of those who watch one falls", impl.ErrForm, retiredTo(2, retiredAt(4, 0, 2, 1, 3))},
		{7, "a place retired twice", impl.ErrTaken, alsoRetired(retiredAt(6, 0, 3))},
		{7, "the last one retired twice, with others who watch", impl.ErrTaken, alsoRetired(retiredAt(7, 1))},
		{7, "a free place that is retired", impl.ErrTaken, alsoRetired(retiredAt(2, 1))},
		{7, "the last free place is retired first", impl.ErrTaken, retiredTo(0, retiredAt(8, 1))},
		{7, "all places retired, and one more", impl.ErrTaken, alsoRetired(retiredAt(0, 1), retiredAt(3, 1), retiredAt(3, 2))},
		{7, "far too many retired places", impl.ErrTaken, alsoRetired(slices.Repeat([]impl.Retired{retiredAt(0, 1), retiredAt(3, 2)}, 300)...)},
	}
}

func arenaTurns() []arenaTurn {
	return slices.Concat(headTurns(), freeTurns(), retiredTurns())
}

func arenaFaults() []arenaCase {
	list := []arenaCase{{"the zero value", impl.Arena{}, impl.ErrRange}, {"nothing but Dims", impl.Arena{Dims: 2}, impl.ErrMany}}
	for _, c := range arenaTurns() {
		list = append(list, arenaCase{c.name, bent(c.turn), c.want})
	}
	return list
}

// Where two are so at once, the one that the chapter names first is told. The
// first one is turned last, so that it is so whatever the other one does.
func arenaFaultsAtOnce() []arenaCase {
	var list []arenaCase
	for _, early := range arenaTurns() {
		for _, late := range arenaTurns() {
			if early.rank < late.rank {
				list = append(list, arenaCase{early.name + " ahead of: " + late.name, bent(late.turn, early.turn), early.want})
			}
		}
	}
	return list
}

// What goes one by one is asked element by element.
func arenaFaultsInARow() []arenaCase {
	level, twice := impl.Node{Level: 7}, leafOf(entryOf(1, 0, flat(0, 0, 1, 1)), entryOf(1, 0, flat(0, 0, 1, 1)))
	return []arenaCase{
		{"a Ref twice ahead of the next Level", bent(nodeTo(0, twice), nodeTo(1, level)), impl.ErrTaken},
		{"a Level ahead of the next Ref twice", bent(nodeTo(0, level), nodeTo(1, twice)), impl.ErrRange},
		{"too many entries ahead of the last box", bent(nodeTo(7, leafOf(someEntries(0, 2, 6)...)), nodeTo(8, leafOf(entryOf(1, 0, rectForm)))), impl.ErrMany},
		{"no free place behind places that fall", bent(freeTo(8, 5, 9)), impl.ErrRange},
		{"no free place behind one whose node is not empty", bent(freeTo(0, 2, -1)), impl.ErrRange},
		{"no free place twice", bent(freeTo(9, 9)), impl.ErrRange},
		{"no place, and nobody watches", bent(retiredTo(0, retiredAt(9))), impl.ErrRange},
		{"no place, and five watch", bent(retiredTo(0, retiredAt(-1, 0, 1, 2, 3, 3))), impl.ErrRange},
		{"no place, and who watches falls", bent(retiredTo(0, retiredAt(9, 3, 1))), impl.ErrRange},
		{"no place twice", bent(alsoRetired(retiredAt(9, 1), retiredAt(9, 1))), impl.ErrRange},
		{"five watch, one of them no client", bent(retiredTo(0, retiredAt(6, -1, 1, 2, 3, 4))), impl.ErrMany},
		{"five watch, and fall", bent(retiredTo(0, retiredAt(6, 3, 2, 1, 0, 0))), impl.ErrMany},
		{"five watch, of a place that is retired twice", bent(retiredTo(1, retiredAt(6, 0, 1, 2, 3, 3))), impl.ErrMany},
		{"who watches is no client, and falls", bent(retiredTo(0, retiredAt(6, 4, 0))), impl.ErrRange},
		{"who watches falls, and is no client then", bent(retiredTo(0, retiredAt(6, 1, 0, -1))), impl.ErrRange},
		{"no client watches twice", bent(retiredTo(0, retiredAt(6, 4, 4))), impl.ErrRange},
		{"who watches falls ahead of the next place", bent(retiredTo(0, retiredAt(6, 3, 0)), retiredTo(1, retiredAt(9, 1))), impl.ErrForm},
		{"who watches falls ahead of the next that nobody watches", bent(retiredTo(0, retiredAt(6, 3, 0)), retiredTo(1, retiredAt(1))), impl.ErrForm},
		{"who watches falls ahead of the next who is no client", bent(retiredTo(0, retiredAt(6, 3, 0)), retiredTo(1, retiredAt(1, 4))), impl.ErrForm},
		{"no client ahead of the next that nobody watches", bent(retiredTo(0, retiredAt(6, 4)), retiredTo(1, retiredAt(1))), impl.ErrRange},
		{"nobody watches ahead of the next place", bent(retiredTo(0, retiredAt(6)), retiredTo(1, retiredAt(9, 1))), impl.ErrMany},
		{"nobody watches ahead of the next who is no client", bent(retiredTo(0, retiredAt(6)), retiredTo(3, retiredAt(7, -1))), impl.ErrMany},
		{"nobody watches a free place", bent(retiredTo(0, retiredAt(2))), impl.ErrMany},
		{"nobody watches behind a free place", bent(retiredTo(0, retiredAt(2, 1)), retiredTo(3, retiredAt(7))), impl.ErrMany},
		{"who watches falls behind a place retired twice", bent(retiredTo(1, retiredAt(6, 1)), retiredTo(3, retiredAt(7, 1, 0))), impl.ErrForm},
		{"a free place that is retired twice", bent(alsoRetired(retiredAt(2, 1), retiredAt(2, 1))), impl.ErrTaken},
	}
}

func allArenaFaults() []arenaCase {
	return slices.Concat(arenaFaults(), arenaFaultsAtOnce(), arenaFaultsInARow())
}

// sayArena asks all that is asked of an arena with a fault, with other
// arguments that are right and that are not, and wants just this code.
func sayArena(t *testing.T, a impl.Arena, want int64) {
	t.Helper()
	if got := impl.ArenaFault(a); got != want {
		t.Errorf("ArenaFault: %d, not %d", got, want)
	}
	for _, n := range []impl.Node{vacant(), {Level: 7}, leafOf(someEntries(0, 2, 6)...)} {
		wantArenaCode(t, "TakeNode", impl.TakeNode(a, n), want)
		for _, id := range []int64{0, 2, 9} {
			wantArenaCode(t, "WriteNode", impl.WriteNode(a, id, n), want)
		}
	}
	for _, id := range []int64{0, 2, 6, -1, 9} {
		wantNodeCode(t, "ReadNode", impl.ReadNode(a, id), want)
		for _, watch := range [][]int64{nil, {1, 3}, {4}, {3, 1}, {0, 1, 2, 3, 4}} {
			wantArenaCode(t, "RetireNode", impl.RetireNode(a, id, watch), want)
		}
	}
	for _, client := range []int64{0, 3, 4, -1} {
		wantArenaCode(t, "EndWatch", impl.EndWatch(a, client), want)
	}
}

// All that is asked of an arena asks the ArenaFault first, ahead of what else
// is wrong with the other arguments.
func TestArenaFault(t *testing.T) {
	for _, c := range allArenaFaults() {
		t.Run(c.name, func(t *testing.T) {
			sayArena(t, c.a, c.want)
		})
	}
}

// Each fault of a node is told of a node at any place, and of one that is laid
// or written, ahead of a place that is free or none, and of no room.
func TestFaultOfANodeInAnArena(t *testing.T) {
	for _, c := range allNodeFaults() {
		if c.dims != 2 && c.dims != 3 {
			continue
		}
		t.Run(c.name, func(t *testing.T) {
			a := someArena(c.dims)
			for i := range a.Nodes {
				if got := impl.ArenaFault(afterWrite(a, int64(i), c.n)); got != c.want {
					t.Errorf("at the place %d: %d, not %d", i, got, c.want)
				}
			}
			for _, b := range []impl.Arena{a, freshArena(c.dims, 4), fullArena(c.dims, 4)} {
				wantArenaCode(t, "TakeNode", impl.TakeNode(b, c.n), c.want)
				for _, id := range []int64{0, 2, 6, -1, 40} {
					wantArenaCode(t, fmt.Sprint("WriteNode ", id), impl.WriteNode(b, id, c.n), c.want)
				}
			}
		})
	}
}

// A node has as many dimensions as the arena, not as it itself may have.
func TestNodeOfOtherDims(t *testing.T) {
	for dims := int64(2); dims <= 3; dims++ {
		a, n := someArena(dims), nodeAt(1, 5-dims)
		wantArenaCode(t, "TakeNode", impl.TakeNode(a, n), impl.ErrMany)
		wantArenaCode(t, "WriteNode", impl.WriteNode(a, 0, n), impl.ErrMany)
	}
}

func TestFreePlacesAreNotRead(t *testing.T) {
	for dims := int64(2); dims <= 3; dims++ {
		for _, a := range []impl.Arena{freshArena(dims, 4), freshArena(dims, 40), someArena(dims)} {
			for _, id := range a.Free {
				wantNodeCode(t, "ReadNode", impl.ReadNode(a, id), impl.ErrNone)
				wantArenaCode(t, "WriteNode", impl.WriteNode(a, id, nodeAt(0, dims)), impl.ErrNone)
				wantArenaCode(t, "RetireNode", impl.RetireNode(a, id, nil), impl.ErrNone)
				wantArenaCode(t, "RetireNode", impl.RetireNode(a, id, []int64{1}), impl.ErrNone)
			}
		}
	}
}

// 0 is in use, 2 is free, 6 is retired, 9 is no place.
func TestFaultOfWhoWatches(t *testing.T) {
	cases := []struct {
		name  string
		watch []int64
		want  int64
	}{
		{"five", []int64{0, 1, 2, 3, 4}, impl.ErrMany},
		{"five, all of them clients", []int64{0, 1, 2, 3, 3}, impl.ErrMany},
		{"five, one below 0", []int64{-1, 0, 1, 2, 3}, impl.ErrMany},
		{"five that fall", []int64{3, 2, 1, 0, 0}, impl.ErrMany},
		{"far too many", make([]int64, 1000), impl.ErrMany},
		{"below 0", []int64{-1}, impl.ErrRange},
		{"no client", []int64{4}, impl.ErrRange},
		{"no client at the end", []int64{0, 1, 2, 4}, impl.ErrRange},
		{"the least", []int64{math.MinInt64}, impl.ErrRange},
		{"the most", []int64{0, math.MaxInt64}, impl.ErrRange},
		{"1 in 32 bits", []int64{1<<32 + 1}, impl.ErrRange},
		{"no client, and falling", []int64{4, 1}, impl.ErrRange},
		{"falling, and no client then", []int64{1, 0, -1}, impl.ErrRange},
		{"no client twice", []int64{4, 4}, impl.ErrRange},
		{"falling", []int64{3, 1}, impl.ErrForm},
		{"twice", []int64{2, 2}, impl.ErrForm},
		{"falling at the end", []int64{0, 1, 3, 2}, impl.ErrForm},
		{"falling at the beginning", []int64{1, 0, 2, 3}, impl.ErrForm},
		{"twice, not side by side", []int64{0, 3, 0}, impl.ErrForm},
	}
	for _, c := range cases {
		t.Run(c.name, func(t *testing.T) {
			for dims := int64(2); dims <= 3; dims++ {
				a := someArena(dims)
				wantArenaCode(t, "in use", impl.RetireNode(a, 0, c.watch), c.want)
				wantArenaCode(t, "in use", impl.RetireNode(a, 3, c.watch), c.want)
				wantArenaCode(t, "retired", impl.RetireNode(a, 6, c.watch), impl.ErrTaken)
				wantArenaCode(t, "free", impl.RetireNode(a, 2, c.watch), impl.ErrNone)
				wantArenaCode(t, "no place", impl.RetireNode(a, 9, c.watch), impl.ErrRange)
			}
		})
	}
}

func TestRightArenas(t *testing.T) {
	for dims := int64(2); dims <= 3; dims++ {
		for _, room := range []int64{4, 5, 39, 40} {
			sayArenaHolds(t, freshArena(dims, room))
			sayArenaHolds(t, fullArena(dims, room))
			watched := fullArena(dims, room)
			for id := range room {
				watched.Retired = append(watched.Retired, retiredAt(room-1-id, watches()[1+id%15]...))
			}
			sayArenaHolds(t, watched)
		}
		sayArenaHolds(t, someArena(dims))
		// A place whose node is empty need not be free.
		sayArenaHolds(t, afterWrite(someArena(dims), 0, vacant()))
		sayArenaHolds(t, afterWrite(someArena(dims), 6, vacant()))
	}
}
