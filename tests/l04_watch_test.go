package tests

import (
	"fmt"
	"math"
	"testing"

	"loop.example/g00680/impl"
)

// watches are all rising lists of clients, from nobody to all four.
func watches() [][]int64 {
	var all [][]int64
	for mask := range 1 << impl.MaxClients {
		var watch []int64
		for c := range int64(impl.MaxClients) {
			if mask>>c&1 == 1 {
				watch = append(watch, c)
			}
		}
		all = append(all, watch)
	}
	return all
}

func TestRetireNodeThatNobodyWatches(t *testing.T) {
	for dims := int64(2); dims <= 3; dims++ {
		a := fullArena(dims, 40)
		// In no order, so that each comes to its place among the free ones.
		for i := range int64(40) {
			id := i * 17 % 40
			for _, nobody := range [][]int64{nil, {}} {
				got := impl.RetireNode(a, id, nobody)
				wantArena(t, fmt.Sprint("RetireNode ", id), got, 0, afterFree(a, id))
			}
			a = afterFree(a, id)
		}
		if !likeArena(a, freshArena(dims, 40)) {
			t.Errorf("not all are free: %v", a)
		}
	}
}

// Whoever watches, the place can be read and written, and is not retired a
// second time.
func TestRetireNodeThatIsWatched(t *testing.T) {
	for dims := int64(2); dims <= 3; dims++ {
		for _, a := range []impl.Arena{fullArena(dims, 4), someArena(dims)} {
			for id := range int64(len(a.Nodes)) {
				if isFree(a, id) || isRetired(a, id) {
					continue
				}
				for _, watch := range watches()[1:] {
					got := impl.RetireNode(a, id, watch)
					wantArena(t, fmt.Sprint("RetireNode ", id, watch), got, 0, afterRetire(a, id, watch))
					sayRetired(t, got.Arena, id)
				}
			}
		}
	}
}

// sayRetired wants that the place is used as one that somebody watches.
func sayRetired(t *testing.T, a impl.Arena, id int64) {
	t.Helper()
	wantNode(t, "ReadNode", impl.ReadNode(a, id), a.Nodes[id])
	n := nodeAt(44, a.Dims)
	wantArena(t, "WriteNode", impl.WriteNode(a, id, n), 0, afterWrite(a, id, n))
	for _, watch := range watches() {
		wantArenaCode(t, "RetireNode again", impl.RetireNode(a, id, watch), impl.ErrTaken)
	}
}

func TestRetiredPlacesStandInTheirOrder(t *testing.T) {
	a := fullArena(2, 40)
	for i := range int64(40) {
		id, watch := i*27%40, watches()[1+i%15]
		got := impl.RetireNode(a, id, watch)
		wantArena(t, fmt.Sprint("RetireNode ", id), got, 0, afterRetire(a, id, watch))
		a = got.Arena
	}
	for c := range int64(impl.MaxClients) {
		got := impl.EndWatch(a, c)
		wantArena(t, fmt.Sprint("EndWatch ", c), got, 0, afterEnd(a, c))
		a = got.Arena
	}
	if !likeArena(a, freshArena(2, 40)) {
		t.Errorf("nobody watches, but not all are free: %v", a)
	}
}

// Told number by number: 7 is watched by the client 3 alone, 1 by 2 alone.
func TestEndWatch(t *testing.T) {
	a := someArena(2)
	cases := []struct {
		client  int64
		free    []int64
		retired []impl.Retired
	}{
		{0, []int64{2, 5, 8}, []impl.Retired{retiredAt(6, 3), retiredAt(1, 2), retiredAt(4, 1, 2, 3), retiredAt(7, 3)}},
		{1, []int64{2, 5, 8}, []impl.Retired{retiredAt(6, 0, 3), retiredAt(1, 2), retiredAt(4, 0, 2, 3), retiredAt(7, 3)}},
		{2, []int64{1, 2, 5, 8}, []impl.Retired{retiredAt(6, 0, 3), retiredAt(4, 0, 1, 3), retiredAt(7, 3)}},
		{3, []int64{2, 5, 7, 8}, []impl.Retired{retiredAt(6, 0), retiredAt(1, 2), retiredAt(4, 0, 1, 2)}},
	}
	for _, c := range cases {
		want := impl.Arena{Dims: 2, Free: c.free, Retired: c.retired}
		for i := range int64(9) {
			want.Nodes = append(want.Nodes, nodeAt(i, 2))
		}
		for _, id := range c.free {
			want.Nodes[id] = vacant()
		}
		got := impl.EndWatch(a, c.client)
		wantArena(t, fmt.Sprint("EndWatch ", c.client), got, 0, want)
		wantArena(t, "EndWatch again", impl.EndWatch(got.Arena, c.client), 0, want)
	}
}

func TestEndWatchOfNothing(t *testing.T) {
	watched := fullArena(3, 6)
	watched.Retired = []impl.Retired{retiredAt(5, 0, 3), retiredAt(0, 3)}
	for _, a := range []impl.Arena{freshArena(2, 4), fullArena(3, 4), fullArena(2, 40), watched} {
		for _, client := range []int64{1, 2} {
			wantArena(t, "EndWatch", impl.EndWatch(a, client), 0, a)
		}
	}
}

func TestEndWatchOfNobody(t *testing.T) {
	for _, a := range []impl.Arena{freshArena(2, 4), fullArena(3, 4), someArena(2), someArena(3)} {
		for _, client := range []int64{-1, 4, 5, math.MinInt64, math.MaxInt64, 1 << 32, 1<<32 + 3} {
			wantArenaCode(t, fmt.Sprint("EndWatch ", client), impl.EndWatch(a, client), impl.ErrRange)
		}
	}
}

// In whatever order they end, the place is free with the last one, not ahead.
func TestWhoEndsLast(t *testing.T) {
	for _, order := range [][]int64{{0, 1, 2, 3}, {3, 2, 1, 0}, {2, 0, 3, 1}, {1, 3, 0, 2}} {
		for _, watch := range watches()[1:] {
			a := afterRetire(fullArena(2, 5), 3, watch)
			for _, client := range order {
				want := afterEnd(a, client)
				got := impl.EndWatch(a, client)
				wantArena(t, fmt.Sprint("EndWatch ", client, " of ", watch), got, 0, want)
				if len(want.Retired) > 0 {
					sayRetired(t, got.Arena, 3)
				}
				a = got.Arena
			}
			wantNodeCode(t, "ReadNode", impl.ReadNode(a, 3), impl.ErrNone)
			taken := impl.TakeNode(a, nodeAt(20, 2))
			wantArena(t, "TakeNode", taken, 3, afterWrite(fullArena(2, 5), 3, nodeAt(20, 2)))
		}
	}
}

// What was written while it was retired is gone when it is free.
func TestWrittenWhileRetired(t *testing.T) {
	for dims := int64(2); dims <= 3; dims++ {
		a := impl.WriteNode(someArena(dims), 7, nodeAt(33, dims)).Arena
		wantArena(t, "EndWatch", impl.EndWatch(a, 3), 0, afterEnd(someArena(dims), 3))
	}
}

// A place that is free again is taken, retired and free again, as often as it
// is wanted.
func TestOnePlaceAgainAndAgain(t *testing.T) {
	a := afterFree(fullArena(2, 4), 2)
	for i := range int64(12) {
		n := nodeAt(i, 2)
		taken := impl.TakeNode(a, n)
		wantArena(t, "TakeNode", taken, 2, afterWrite(fullArena(2, 4), 2, n))
		retired := impl.RetireNode(taken.Arena, 2, []int64{i % 4})
		wantArenaCode(t, "TakeNode of none", impl.TakeNode(retired.Arena, n), impl.ErrFull)
		wantArena(t, "EndWatch of another one", impl.EndWatch(retired.Arena, (i+1)%4), 0, retired.Arena)
		a = impl.EndWatch(retired.Arena, i%4).Arena
		if !likeArena(a, afterFree(fullArena(2, 4), 2)) {
			t.Errorf("not as it was: %v", a)
		}
	}
}

// The walk goes through all that four places can come to with two clients that
// watch, and asks every step of each.
func TestAllArenasOfFourPlaces(t *testing.T) {
	for dims := int64(2); dims <= 3; dims++ {
		seen := map[string]bool{}
		todo := []impl.Arena{freshArena(dims, 4)}
		for len(todo) > 0 && !t.Failed() {
			a := todo[0]
			todo = todo[1:]
			if key := fmt.Sprint(a.Free, a.Retired); !seen[key] {
				seen[key] = true
				todo = append(todo, stepsFrom(t, a)...)
			}
		}
		if len(seen) != 3784 {
			t.Errorf("%d arenas", len(seen))
		}
	}
}

func stepsFrom(t *testing.T, a impl.Arena) []impl.Arena {
	t.Helper()
	var next []impl.Arena
	step := func(what string, got impl.ArenaResult, id int64, want impl.Arena) {
		if got.Code != impl.OK || got.Id != id || !likeArena(got.Arena, want) {
			t.Errorf("%s of %v: %v, not %v", what, a, got, want)
		}
		next = append(next, want)
	}
	sayArenaHolds(t, a)
	if len(a.Free) == 0 {
		wantArenaCode(t, "TakeNode", impl.TakeNode(a, vacant()), impl.ErrFull)
	} else {
		n := nodeAt(a.Free[0], a.Dims)
		step("TakeNode", impl.TakeNode(a, n), a.Free[0], afterTake(a, n))
	}
	for id := range int64(4) {
		for _, watch := range [][]int64{nil, {0}, {3}, {0, 3}} {
			got := impl.RetireNode(a, id, watch)
			switch {
			case isFree(a, id):
				wantArenaCode(t, "RetireNode", got, impl.ErrNone)
			case isRetired(a, id):
				wantArenaCode(t, "RetireNode", got, impl.ErrTaken)
			default:
				step("RetireNode", got, 0, afterRetire(a, id, watch))
			}
		}
	}
	for client := range int64(4) {
		step("EndWatch", impl.EndWatch(a, client), 0, afterEnd(a, client))
	}
	return next
}
