package tests

import (
	"fmt"
	"slices"
	"testing"

	"loop.example/g00680/impl"
)

// nearCase tells the boxes of the other leaves, and the box of the one pair
// that is left at the node at hand: to which of the others it is joined.
type nearCase struct {
	name   string
	others []impl.Rect
	left   impl.Rect
	want   int
}

func nearCases() []nearCase {
	return []nearCase{
		{"the least growth is first", bars([2]int64{4, 6}, [2]int64{20, 22}, [2]int64{40, 42}), flat(0, 0, 1, 1), 0},
		{"the least growth is between", bars([2]int64{20, 22}, [2]int64{4, 6}, [2]int64{40, 42}), flat(0, 0, 1, 1), 1},
		{"the least growth is last", bars([2]int64{20, 22}, [2]int64{40, 42}, [2]int64{4, 6}), flat(0, 0, 1, 1), 2},
		{"one alone", bars([2]int64{900, 902}), flat(0, 0, 1, 1), 0},
		{"no growth, and the area the greatest", []impl.Rect{flat(6, 5, 8, 7), flat(0, 0, 90, 90), flat(0, 91, 10, 99)}, flat(5, 5, 6, 6), 1},
		{"no growth, and areas tell", []impl.Rect{flat(0, 0, 9, 9), flat(0, 0, 7, 7), flat(1, 1, 9, 9)}, flat(5, 5, 6, 6), 1},
		{"growths alike, and areas tell", bars([2]int64{0, 2}, [2]int64{3, 4}, [2]int64{5, 9}), flat(2, 0, 3, 1), 1},
		{"growths alike, and areas tell, of the last", []impl.Rect{flat(-7, 0, 0, 1), flat(20, 0, 21, 1), flat(1, 0, 3, 1)}, flat(0, 0, 1, 1), 2},
		{"both alike", []impl.Rect{flat(0, 0, 6, 6), flat(5, 5, 11, 11), flat(5, 0, 11, 6)}, flat(5, 5, 6, 6), 0},
		{"both alike, of the second and the third", []impl.Rect{flat(0, 0, 9, 9), flat(1, 1, 8, 8), flat(2, 0, 9, 7)}, flat(5, 5, 6, 6), 1},
		{"one box three times", []impl.Rect{flat(0, 0, 2, 2), flat(0, 0, 2, 2), flat(0, 0, 2, 2)}, flat(50, 50, 51, 51), 0},
		{"a point", []impl.Rect{flat(3, 3, 4, 4), flat(1, 1, 2, 2)}, flat(2, 2, 2, 2), 1},
		{"the others grow, not the one at hand", []impl.Rect{flat(30, 0, 31, 1), flat(0, 0, 20, 20)}, flat(21, 0, 29, 20), 1},
		{"in depth", []impl.Rect{solid(0, 0, 0, 2, 2, 2), solid(0, 0, 5, 2, 2, 7)}, solid(0, 0, 8, 2, 2, 9), 1},
		{"in depth, and areas tell", []impl.Rect{solid(0, 0, 0, 9, 9, 9), solid(0, 0, 0, 9, 9, 8), solid(0, 0, 0, 9, 8, 9)}, solid(1, 1, 1, 2, 2, 2), 1},
	}
}

const nearLeft = 100
const nearGone = 101

// nearTree has a leaf with two pairs, of which one is to go, at the given place
// among the entries of the root; each of the others has the two corners of its
// box.
func nearTree(c nearCase, place int, gone impl.Rect) impl.Tree {
	dims := int64(len(c.left.Low))
	tr := impl.Tree{Arena: freshArena(dims, 6), Root: 5, Counter: 4}
	tr.Arena.Free = nil
	for i, r := range c.others {
		low, high := impl.Rect{Low: r.Low, High: r.Low}, impl.Rect{Low: r.High, High: r.High}
		tr.Arena.Nodes[i] = leafOf(entryOf(int64(2*i), 0, low), entryOf(int64(2*i+1), 0, high))
	}
	tr.Arena.Nodes[4] = leafOf(entryOf(nearLeft, 0, c.left), entryOf(nearGone, 0, gone))
	for i := len(c.others); i < 4; i++ {
		tr.Arena.Free = append(tr.Arena.Free, int64(i))
	}
	refs := []int64{0, 1, 2}[:len(c.others)]
	tr.Arena.Nodes[5] = innerWith(dims, 1, 0, impl.NoNode, slices.Insert(slices.Clone(refs), place, 4)...)
	return fitted(tr)
}

// wantNear wants the pair that is left behind the two of one of the others, and
// each of the rest as it was.
func wantNear(t *testing.T, what string, tr impl.Tree, gone impl.Rect, want int64) {
	t.Helper()
	p := pairOf(nearGone, gone)
	sayDrop(t, what, tr, p, []int64{3})
	got := impl.DropFrom(tr, p)
	if got.Code != impl.OK || !isFree(got.Tree.Arena, 4) {
		t.Fatalf("%s: %v", what, got)
	}
	for id := range int64(3) {
		list := slices.Clone(tr.Arena.Nodes[id].Entries)
		if id == want {
			list = append(list, tr.Arena.Nodes[4].Entries[0])
		}
		if !likeEntries(got.Tree.Arena.Nodes[id].Entries, list) {
			t.Fatalf("%s: %d is the neighbour, but\n%s", what, want, told(got.Tree))
		}
	}
}

// The box of the node at hand is that of what is left: what is gone, wherever
// it was, tells nothing.
func TestNeighbourOfANode(t *testing.T) {
	for _, c := range nearCases() {
		bounds := utmostBox(int64(len(c.left.Low)))
		for place := range len(c.others) + 1 {
			for i, gone := range []impl.Rect{c.left, c.others[0], c.others[len(c.others)-1], bounds, {Low: bounds.High, High: bounds.High}} {
				what := fmt.Sprintf("%s, at %d, without %d", c.name, place, i)
				wantNear(t, what, nearTree(c, place, gone), gone, int64(c.want))
			}
		}
	}
}

// Where entries are shared out anew, the one of the node at hand may stand
// ahead of that of its neighbour, and behind it, with others around.
func TestNeighbourWithFour(t *testing.T) {
	for _, c := range nearCases() {
		for place := range len(c.others) + 1 {
			for style := range int64(2) {
				tr := nearTree(c, place, c.left)
				n := &tr.Arena.Nodes[c.want]
				low, high := n.Entries[0].Rect, n.Entries[1].Rect
				n.Entries = slices.Insert(n.Entries, 1, entryOf(200, 0, high), entryOf(201, 0, low))
				tr.Style = style
				code, x := sayDrop(t, fmt.Sprintf("%s, at %d", c.name, place), tr, pairOf(nearGone, c.left), nil)
				if code != impl.OK || x.retires() || len(impl.ReachOf(x.t).List) != len(c.others)+2 {
					t.Fatalf("%s: the code %d, %v", c.name, code, x.did)
				}
			}
		}
	}
}
