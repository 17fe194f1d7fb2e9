package tests

import (
	"slices"
	"testing"

	"loop.example/g00680/impl"
)

// widenCase is an entry's box, what it is widened by, and what comes of it.
type widenCase struct {
	name       string
	r, by, got impl.Rect
}

func widenCases() []widenCase {
	return []widenCase{
		{"inside", flat(0, 0, 9, 9), flat(2, 3, 4, 5), flat(0, 0, 9, 9)},
		{"inside, at the border", flat(0, 0, 9, 9), flat(0, 3, 4, 9), flat(0, 0, 9, 9)},
		{"the same", flat(1, 2, 3, 4), flat(1, 2, 3, 4), flat(1, 2, 3, 4)},
		{"around", flat(1, 2, 3, 4), flat(-1, -2, 5, 6), flat(-1, -2, 5, 6)},
		{"crossing", flat(0, 0, 4, 4), flat(2, 3, 6, 7), flat(0, 0, 6, 7)},
		{"beside, to the right", flat(0, 0, 2, 2), flat(5, 1, 6, 2), flat(0, 0, 6, 2)},
		{"beside, to the left", flat(0, 0, 2, 2), flat(-6, 1, -5, 2), flat(-6, 0, 2, 2)},
		{"beside, above", flat(0, 0, 2, 2), flat(1, 4, 2, 7), flat(0, 0, 2, 7)},
		{"beside, below", flat(0, 0, 2, 2), flat(1, -7, 2, -4), flat(0, -7, 2, 2)},
		{"touching a side", flat(0, 0, 2, 2), flat(2, 0, 4, 1), flat(0, 0, 4, 2)},
		{"touching a corner", flat(0, 0, 2, 2), flat(-3, 2, 0, 5), flat(-3, 0, 2, 5)},
		{"a point inside", flat(0, 0, 2, 2), flat(1, 1, 1, 1), flat(0, 0, 2, 2)},
		{"a point at the border", flat(0, 0, 2, 2), flat(2, 1, 2, 1), flat(0, 0, 2, 2)},
		{"a point beside", flat(0, 0, 2, 2), flat(5, -1, 5, -1), flat(0, -1, 5, 2)},
		{"a line across", flat(0, 0, 2, 2), flat(-4, 1, 4, 1), flat(-4, 0, 4, 2)},
		{"a point by a point", flat(3, 3, 3, 3), flat(1, 4, 1, 4), flat(1, 3, 3, 4)},
		{"a point by itself", flat(3, 3, 3, 3), flat(3, 3, 3, 3), flat(3, 3, 3, 3)},
		{"to the bounds", flat(-1000, -1000, -1000, -1000), flat(1000, 1000, 1000, 1000), flat(-1000, -1000, 1000, 1000)},
		{"solid, inside", solid(0, 0, 0, 9, 9, 9), solid(1, 2, 3, 4, 5, 6), solid(0, 0, 0, 9, 9, 9)},
		{"solid, beside in depth", solid(0, 0, 0, 2, 2, 2), solid(0, 1, 5, 1, 2, 6), solid(0, 0, 0, 2, 2, 6)},
		{"solid, beside in depth, below", solid(0, 0, 0, 2, 2, 2), solid(0, 1, -6, 1, 2, -5), solid(0, 0, -6, 2, 2, 2)},
		{"solid, touching a face", solid(0, 0, 0, 2, 2, 2), solid(0, 0, 2, 1, 1, 3), solid(0, 0, 0, 2, 2, 3)},
		{"solid, touching a corner", solid(0, 0, 0, 2, 2, 2), solid(2, 2, 2, 3, 4, 5), solid(0, 0, 0, 3, 4, 5)},
		{"solid, a point inside", solid(0, 0, 0, 2, 2, 2), solid(1, 1, 1, 1, 1, 1), solid(0, 0, 0, 2, 2, 2)},
		{"solid, a point beside", solid(0, 0, 0, 2, 2, 2), solid(1, 1, -1, 1, 1, -1), solid(0, 0, -1, 2, 2, 2)},
		{"solid, a sheet across", solid(0, 0, 0, 2, 2, 2), solid(-1, -1, 1, 3, 3, 1), solid(-1, -1, 0, 3, 3, 2)},
		{"solid, to the bounds", solid(1000, -1000, 1000, 1000, -1000, 1000), solid(-1000, 1000, -1000, -1000, 1000, -1000), solid(-1000, -1000, -1000, 1000, 1000, 1000)},
	}
}

// withBox is the node in which the entry at this place has this box.
func withBox(n impl.Node, i int, r impl.Rect) impl.Node {
	n.Entries = slices.Clone(n.Entries)
	n.Entries[i].Rect = r
	return n
}

// Promise 4: at each place of nodes of each kind and size the entry covers
// what it covered and what it was widened by, and all others are as they were.
func TestWidenEntry(t *testing.T) {
	for _, c := range widenCases() {
		t.Run(c.name, func(t *testing.T) {
			dims := int64(len(c.r.Low))
			for _, head := range heads() {
				for count := 1; count <= 5; count++ {
					all := holding(head, someEntries(head.Level, dims, count))
					for i, e := range all.Entries {
						n := withBox(all, i, c.r)
						sayWidened(t, n, dims, i, c)
						wantNode(t, "WidenEntry by its own box", impl.WidenEntry(all, dims, e.Ref, e.Rect), all)
					}
				}
			}
		})
	}
}

func sayWidened(t *testing.T, n impl.Node, dims int64, i int, c widenCase) {
	t.Helper()
	got := impl.WidenEntry(n, dims, n.Entries[i].Ref, c.by)
	want := withBox(n, i, c.got)
	wantNode(t, "WidenEntry", got, want)
	if t.Failed() {
		t.FailNow()
	}
	r := got.Node.Entries[i].Rect
	if !impl.Covers(r, c.r) || !impl.Covers(r, c.by) {
		t.Errorf("%v does not cover %v and %v", r, c.r, c.by)
	}
	sayHeld(t, got.Node, dims, want.Entries)
}

// Widened by one box after the other, an entry covers all of them.
func TestWidenEntryAgainAndAgain(t *testing.T) {
	eachNode(t, 5, 5, func(t *testing.T, n impl.Node, dims int64) {
		for i, e := range n.Entries {
			wide := n
			boxes := []impl.Rect{e.Rect}
			for _, c := range widenCases() {
				if int64(len(c.by.Low)) == dims {
					boxes = append(boxes, c.by)
					wide = impl.WidenEntry(wide, dims, e.Ref, c.by).Node
				}
			}
			for _, r := range boxes {
				if !impl.Covers(wide.Entries[i].Rect, r) {
					t.Errorf("%v does not cover %v", wide.Entries[i].Rect, r)
				}
			}
			if !likeNode(withBox(wide, i, e.Rect), n) {
				t.Errorf("something else was turned: %v", wide)
			}
		}
	})
}

// Counted out on a lattice: the box of a node with two entries, and the box of
// the one that was widened by the other.
func TestNodesCountedOut(t *testing.T) {
	for _, l := range lattices() {
		dims := int64(len(l.points[0]))
		for _, a := range l.boxes {
			for _, b := range l.boxes {
				around := l.around(a, b)
				n := impl.Node{Level: 1, Right: impl.NoNode, Entries: []impl.Entry{entryOf(3, 9, a), entryOf(2, 8, b)}}
				if got := impl.BoxOf(n, dims); got.Code != impl.OK || !impl.SameRects(got.Rect, around) {
					t.Fatalf("BoxOf %v: %v", n, got)
				}
				if got := impl.WidenEntry(n, dims, 3, b); got.Code != impl.OK || !likeNode(got.Node, withBox(n, 0, around)) {
					t.Fatalf("WidenEntry 3 of %v by %v: %v", n, b, got)
				}
				if got := impl.WidenEntry(n, dims, 2, a); got.Code != impl.OK || !likeNode(got.Node, withBox(n, 1, around)) {
					t.Fatalf("WidenEntry 2 of %v by %v: %v", n, a, got)
				}
			}
		}
	}
}
