package tests

import (
	"fmt"
	"math"
	"slices"
	"testing"

	"loop.example/g00680/impl"
)

// vacant is what a free place holds.
func vacant() impl.Node {
	return impl.Node{Right: impl.NoNode}
}

// nodeAt is a right node of which no two with different i are alike; its level
// and how many entries it has go through all that may be.
func nodeAt(i int64, dims int64) impl.Node {
	n := impl.Node{Level: i % 7, Nsn: 10 + i, Right: (i+2)%41 - 1}
	return holding(n, someEntries(n.Level, dims, int((i+1)%6)))
}

func retiredAt(id int64, watch ...int64) impl.Retired {
	return impl.Retired{Id: id, Watch: watch}
}

// freshArena has all its places free.
func freshArena(dims int64, room int64) impl.Arena {
	a := impl.Arena{Dims: dims}
	for i := range room {
		a.Nodes = append(a.Nodes, vacant())
		a.Free = append(a.Free, i)
	}
	return a
}

// fullArena has a node at each place.
func fullArena(dims int64, room int64) impl.Arena {
	a := impl.Arena{Dims: dims}
	for i := range room {
		a.Nodes = append(a.Nodes, nodeAt(i, dims))
	}
	return a
}

// someArena has places of all kinds: 2, 5 and 8 are free, 6, 1, 4 and 7 are
// retired, in no order, and 0 and 3 are in use.
func someArena(dims int64) impl.Arena {
	a := fullArena(dims, 9)
	a.Free = []int64{2, 5, 8}
	for _, id := range a.Free {
		a.Nodes[id] = vacant()
	}
	a.Retired = []impl.Retired{retiredAt(6, 0, 3), retiredAt(1, 2), retiredAt(4, 0, 1, 2, 3), retiredAt(7, 3)}
	return a
}

func cloneArena(a impl.Arena) impl.Arena {
	c := impl.Arena{Dims: a.Dims, Free: slices.Clone(a.Free)}
	for _, n := range a.Nodes {
		c.Nodes = append(c.Nodes, cloneNode(n))
	}
	for _, r := range a.Retired {
		c.Retired = append(c.Retired, retiredAt(r.Id, slices.Clone(r.Watch)...))
	}
	return c
}

func likeArena(a impl.Arena, b impl.Arena) bool {
	sameRetired := slices.EqualFunc(a.Retired, b.Retired, func(x impl.Retired, y impl.Retired) bool {
		return x.Id == y.Id && slices.Equal(x.Watch, y.Watch)
	})
	return a.Dims == b.Dims && slices.EqualFunc(a.Nodes, b.Nodes, likeNode) && slices.Equal(a.Free, b.Free) && sameRetired
}

// isFree and isRetired read the lists themselves.
func isFree(a impl.Arena, id int64) bool {
	return slices.Contains(a.Free, id)
}

func isRetired(a impl.Arena, id int64) bool {
	return slices.ContainsFunc(a.Retired, func(r impl.Retired) bool { return r.Id == id })
}

// afterWrite, afterTake, afterFree, afterRetire and afterEnd tell what has to
// come of an arena, by its lists alone.
func afterWrite(a impl.Arena, id int64, n impl.Node) impl.Arena {
	a = cloneArena(a)
	a.Nodes[id] = n
	return a
}

func afterTake(a impl.Arena, n impl.Node) impl.Arena {
	a = afterWrite(a, a.Free[0], n)
	a.Free = a.Free[1:]
	return a
}

func afterFree(a impl.Arena, id int64) impl.Arena {
	a = afterWrite(a, id, vacant())
	a.Free = append(a.Free, id)
	slices.Sort(a.Free)
	return a
}

func afterRetire(a impl.Arena, id int64, watch []int64) impl.Arena {
	if len(watch) == 0 {
		return afterFree(a, id)
	}
	a = cloneArena(a)
	a.Retired = append(a.Retired, retiredAt(id, watch...))
	return a
}

func afterEnd(a impl.Arena, client int64) impl.Arena {
	a = cloneArena(a)
	list := a.Retired
	a.Retired = nil
	for _, r := range list {
		r.Watch = slices.DeleteFunc(r.Watch, func(c int64) bool { return c == client })
		if len(r.Watch) == 0 {
			a = afterFree(a, r.Id)
		} else {
			a.Retired = append(a.Retired, r)
		}
	}
	return a
}

func wantArena(t *testing.T, what string, got impl.ArenaResult, id int64, want impl.Arena) {
	t.Helper()
	if got.Code != impl.OK || got.Id != id || !likeArena(got.Arena, want) {
		t.Errorf("%s: %v, not the place %d and %v", what, got, id, want)
	}
	sayArenaHolds(t, got.Arena)
}

func wantArenaCode(t *testing.T, what string, got impl.ArenaResult, want int64) {
	t.Helper()
	if got.Code != want || got.Id != 0 || !likeArena(got.Arena, impl.Arena{}) {
		t.Errorf("%s: %v, not the code %d alone", what, got, want)
	}
}

// sayArenaHolds wants no fault, and that each place is read, but for those
// that are free.
func sayArenaHolds(t *testing.T, a impl.Arena) {
	t.Helper()
	if code := impl.ArenaFault(a); code != impl.OK {
		t.Errorf("ArenaFault of %v: %d", a, code)
	}
	for i, n := range a.Nodes {
		got := impl.ReadNode(a, int64(i))
		if isFree(a, int64(i)) {
			wantNodeCode(t, fmt.Sprint("ReadNode of the free place ", i), got, impl.ErrNone)
		} else {
			wantNode(t, fmt.Sprint("ReadNode ", i), got, n)
		}
	}
}

func TestNewArena(t *testing.T) {
	for dims := int64(2); dims <= 3; dims++ {
		for room := int64(4); room <= 40; room++ {
			got := impl.NewArena(dims, room)
			wantArena(t, fmt.Sprintf("NewArena %d %d", dims, room), got, 0, freshArena(dims, room))
		}
	}
}

func TestNewArenaThatCannotBe(t *testing.T) {
	rooms := []int64{3, 41, 0, -1, -4, 1, 2, 42, 1000, 1<<32 + 4, math.MinInt64, math.MaxInt64}
	for _, room := range rooms {
		for dims := int64(2); dims <= 3; dims++ {
			wantArenaCode(t, fmt.Sprintf("NewArena %d %d", dims, room), impl.NewArena(dims, room), impl.ErrMany)
		}
	}
	for _, dims := range []int64{1, 4, 0, -1, -2, 5, 1<<32 + 2, math.MinInt64, math.MaxInt64} {
		for _, room := range append(rooms, 4, 9, 40) {
			wantArenaCode(t, fmt.Sprintf("NewArena %d %d", dims, room), impl.NewArena(dims, room), impl.ErrRange)
		}
	}
}

// Promise 5: place after place, from the lowest on, until there is none.
func TestTakeNodeUntilFull(t *testing.T) {
	for dims := int64(2); dims <= 3; dims++ {
		for _, room := range []int64{4, 5, 17, 40} {
			a := impl.NewArena(dims, room).Arena
			for i := range room {
				n := nodeAt(i, dims)
				got := impl.TakeNode(a, n)
				wantArena(t, fmt.Sprint("TakeNode ", i), got, i, afterTake(a, n))
				a = got.Arena
			}
			if !likeArena(a, fullArena(dims, room)) {
				t.Errorf("not all nodes, in order: %v", a)
			}
			wantArenaCode(t, "one more", impl.TakeNode(a, vacant()), impl.ErrFull)
			wantArenaCode(t, "one more", impl.TakeNode(a, nodeAt(3, dims)), impl.ErrFull)
		}
	}
}

// Any right node can be laid, an empty one too, which is in use nevertheless.
func TestTakeNodeOfAnyKind(t *testing.T) {
	eachNode(t, 0, 5, func(t *testing.T, n impl.Node, dims int64) {
		a := someArena(dims)
		for _, id := range []int64{2, 5, 8} {
			got := impl.TakeNode(a, n)
			wantArena(t, "TakeNode", got, id, afterTake(a, n))
			a = got.Arena
		}
		wantArenaCode(t, "one more", impl.TakeNode(a, n), impl.ErrFull)
	})
}

// Each single place may be the only free one.
func TestTakeTheOnlyFreePlace(t *testing.T) {
	for dims := int64(2); dims <= 3; dims++ {
		for id := range int64(40) {
			a := afterFree(fullArena(dims, 40), id)
			n := nodeAt(50, dims)
			got := impl.TakeNode(a, n)
			wantArena(t, fmt.Sprint("TakeNode ", id), got, id, afterWrite(fullArena(dims, 40), id, n))
			wantArenaCode(t, "one more", impl.TakeNode(got.Arena, n), impl.ErrFull)
		}
	}
}

// An arena whose places are all in use or retired has no room, however few of
// the clients watch.
func TestRetiredPlacesAreNotTaken(t *testing.T) {
	a := fullArena(2, 4)
	for id := range int64(4) {
		a.Retired = append(a.Retired, retiredAt(3-id, id))
		wantArenaCode(t, "TakeNode", impl.TakeNode(a, vacant()), impl.ErrFull)
	}
}

// What is written is read, in use and retired, and all else is as it was.
func TestWriteNode(t *testing.T) {
	eachNode(t, 0, 5, func(t *testing.T, n impl.Node, dims int64) {
		a := someArena(dims)
		for id := range int64(9) {
			got := impl.WriteNode(a, id, n)
			if isFree(a, id) {
				wantArenaCode(t, fmt.Sprint("WriteNode of the free place ", id), got, impl.ErrNone)
				continue
			}
			wantArena(t, fmt.Sprint("WriteNode ", id), got, 0, afterWrite(a, id, n))
			wantNode(t, fmt.Sprint("ReadNode ", id), impl.ReadNode(got.Arena, id), n)
		}
	})
}

func TestWriteNodeAgainAndAgain(t *testing.T) {
	for dims := int64(2); dims <= 3; dims++ {
		a := fullArena(dims, 40)
		for id := range int64(40) {
			want := afterWrite(a, id, nodeAt(id+5, dims))
			got := impl.WriteNode(a, id, nodeAt(id+5, dims))
			wantArena(t, fmt.Sprint("WriteNode ", id), got, 0, want)
			wantArena(t, "the same again", impl.WriteNode(got.Arena, id, nodeAt(id+5, dims)), 0, want)
			wantArena(t, "back again", impl.WriteNode(got.Arena, id, a.Nodes[id]), 0, a)
			a = got.Arena
		}
	}
}

// A place that is no place is told by all that ask for one.
func TestNoPlace(t *testing.T) {
	for _, a := range []impl.Arena{freshArena(2, 4), fullArena(3, 4), someArena(2), fullArena(2, 40)} {
		room := int64(len(a.Nodes))
		for _, id := range []int64{-1, room, room + 1, -room, math.MinInt64, math.MaxInt64, 1 << 32} {
			wantNodeCode(t, "ReadNode", impl.ReadNode(a, id), impl.ErrRange)
			wantArenaCode(t, "WriteNode", impl.WriteNode(a, id, vacant()), impl.ErrRange)
			wantArenaCode(t, "RetireNode", impl.RetireNode(a, id, nil), impl.ErrRange)
			wantArenaCode(t, "RetireNode", impl.RetireNode(a, id, []int64{1}), impl.ErrRange)
		}
	}
}
