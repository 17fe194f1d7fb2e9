package tests

import (
	"math"
	"slices"
	"testing"

	"loop.example/g00680/impl"
)

// nodeCase is a node with a fault.
type nodeCase struct {
	name string
	n    impl.Node
	dims int64
	want int64
}

// leafOf and innerOf have right numbers of their own.
func leafOf(list ...impl.Entry) impl.Node {
	return impl.Node{Nsn: 4, Right: 7, Entries: list}
}

func innerOf(list ...impl.Entry) impl.Node {
	return impl.Node{Level: 2, Nsn: 4, Right: 7, Entries: list}
}

// turned is a right leaf of two entries of which turn makes another one.
func turned(turn func(n *impl.Node)) impl.Node {
	n := leafOf(someEntries(0, 2, 2)...)
	turn(&n)
	return n
}

// oneTooMany is a leaf with more entries than may be of which turn makes
// another one.
func oneTooMany(turn func(list []impl.Entry)) impl.Node {
	list := someEntries(0, 2, 6)
	turn(list)
	return leafOf(list...)
}

func headFaults() []nodeCase {
	return []nodeCase{
		{"no dims", impl.Node{}, 0, impl.ErrRange},
		{"one dim", impl.Node{}, 1, impl.ErrRange},
		{"four dims", impl.Node{}, 4, impl.ErrRange},
		{"the least dims", impl.Node{}, math.MinInt64, impl.ErrRange},
		{"the most dims", impl.Node{}, math.MaxInt64, impl.ErrRange},
		{"dims that are 2 in 32 bits", impl.Node{}, 1<<32 + 2, impl.ErrRange},
		{"Level below 0", turned(func(n *impl.Node) { n.Level = -1 }), 2, impl.ErrRange},
		{"Level above the bounds", turned(func(n *impl.Node) { n.Level = 7 }), 2, impl.ErrRange},
		{"the least Level", turned(func(n *impl.Node) { n.Level = math.MinInt64 }), 2, impl.ErrRange},
		{"the most Level", turned(func(n *impl.Node) { n.Level = math.MaxInt64 }), 2, impl.ErrRange},
		{"a Level that is 1 in 32 bits", impl.Node{Level: 1<<32 + 1}, 2, impl.ErrRange},
		{"Nsn below 0", turned(func(n *impl.Node) { n.Nsn = -1 }), 2, impl.ErrRange},
		{"Nsn above the bounds", turned(func(n *impl.Node) { n.Nsn = 100001 }), 2, impl.ErrRange},
		{"the least Nsn", turned(func(n *impl.Node) { n.Nsn = math.MinInt64 }), 2, impl.ErrRange},
		{"the most Nsn", turned(func(n *impl.Node) { n.Nsn = math.MaxInt64 }), 2, impl.ErrRange},
		{"Right below NoNode", turned(func(n *impl.Node) { n.Right = -2 }), 2, impl.ErrRange},
		{"Right at MaxNodes", turned(func(n *impl.Node) { n.Right = 40 }), 2, impl.ErrRange},
		{"the least Right", turned(func(n *impl.Node) { n.Right = math.MinInt64 }), 2, impl.ErrRange},
		{"the most Right", turned(func(n *impl.Node) { n.Right = math.MaxInt64 }), 2, impl.ErrRange},
	}
}

func entriesFaults() []nodeCase {
	good, two := flat(0, 0, 1, 1), someEntries(0, 2, 2)
	return []nodeCase{
		{"two entries more than MaxEntries", leafOf(someEntries(0, 2, 6)...), 2, impl.ErrMany},
		{"two more, of an inner node", innerOf(someEntries(1, 3, 6)...), 3, impl.ErrMany},
		{"far too many", leafOf(make([]impl.Entry, 300)...), 2, impl.ErrMany},
		{"no box", leafOf(impl.Entry{Ref: 1}), 2, impl.ErrMany},
		{"a box of other dims", leafOf(entryOf(1, 0, rectMany)), 2, impl.ErrMany},
		{"a flat box in three dims", innerOf(entryOf(1, 0, good)), 3, impl.ErrMany},
		{"a box out of bounds", innerOf(entryOf(1, 0, rectRange)), 2, impl.ErrRange},
		{"a box turned over", leafOf(entryOf(1, 0, rectForm)), 2, impl.ErrForm},
		{"a box turned over, behind right ones", leafOf(append(someEntries(0, 2, 4), entryOf(1, 0, rectForm))...), 2, impl.ErrForm},
		{"a Ref below 0", leafOf(entryOf(-1, 0, good)), 2, impl.ErrRange},
		{"a Ref below 0, of an inner node", innerOf(entryOf(-1, 0, good)), 2, impl.ErrRange},
		{"a Ref above the bounds", leafOf(entryOf(1000, 0, good)), 2, impl.ErrRange},
		{"a Ref above the bounds, of an inner node", innerOf(entryOf(1000, 0, good)), 2, impl.ErrRange},
		{"the utmost Ref, behind right ones", leafOf(append(someEntries(0, 2, 4), entryOf(math.MaxInt64, 0, good))...), 2, impl.ErrRange},
		{"the least Ref", innerOf(entryOf(math.MinInt64, 0, good)), 2, impl.ErrRange},
		{"an entry's Nsn below 0", innerOf(entryOf(1, -1, good)), 2, impl.ErrRange},
		{"an entry's Nsn above the bounds", innerOf(entryOf(1, 100001, good)), 2, impl.ErrRange},
		{"an entry's Nsn above the bounds, of a leaf", leafOf(entryOf(1, 100001, good)), 2, impl.ErrRange},
		{"the utmost Nsn of an entry", leafOf(two[0], entryOf(1, math.MaxInt64, good)), 2, impl.ErrRange},
		{"the least Nsn of an entry", innerOf(entryOf(1, math.MinInt64, good)), 2, impl.ErrRange},
		{"a leaf's entry with a Nsn", leafOf(entryOf(1, 1, good)), 2, impl.ErrForm},
		{"a leaf's entry with the greatest Nsn", leafOf(two[0], two[1], entryOf(1, 100000, good)), 2, impl.ErrForm},
		{"an inner node's Ref at MaxNodes", innerOf(entryOf(40, 1, good)), 2, impl.ErrForm},
		{"an inner node's Ref at MaxId", innerOf(entryOf(1, 1, good), entryOf(999, 0, good)), 2, impl.ErrForm},
		{"a Ref twice", leafOf(entryOf(1, 0, good), entryOf(1, 0, good)), 2, impl.ErrTaken},
		{"a Ref twice, with other boxes", leafOf(two[0], two[1], entryOf(two[1].Ref, 0, good)), 2, impl.ErrTaken},
		{"a Ref twice, with other numbers", innerOf(entryOf(1, 5, good), entryOf(1, 6, good)), 2, impl.ErrTaken},
		{"the first Ref twice, not side by side", innerOf(append(someEntries(1, 3, 4), entryOf(30, 0, rightBox(3)))...), 3, impl.ErrTaken},
		{"the Ref 0 twice", leafOf(entryOf(0, 0, good), entryOf(3, 0, good), entryOf(0, 0, good)), 2, impl.ErrTaken},
	}
}

func nodeFaults() []nodeCase {
	return append(headFaults(), entriesFaults()...)
}

// Where two are so at once, the one that the chapter names first is told.
func headFaultsAtOnce() []nodeCase {
	good := flat(0, 0, 1, 1)
	var list []nodeCase
	for _, late := range entriesFaults() {
		list = append(list, nodeCase{"dims ahead of: " + late.name, late.n, 4, impl.ErrRange})
		for _, turn := range []func(n *impl.Node){
			func(n *impl.Node) { n.Level = 7 },
			func(n *impl.Node) { n.Level = -1 },
			func(n *impl.Node) { n.Nsn = 100001 },
			func(n *impl.Node) { n.Right = -2 },
		} {
			n := late.n
			turn(&n)
			list = append(list, nodeCase{"its own numbers ahead of: " + late.name, n, late.dims, impl.ErrRange})
		}
	}
	return append(list,
		nodeCase{"too many ahead of a box turned over", oneTooMany(func(l []impl.Entry) { l[0].Rect = rectForm }), 2, impl.ErrMany},
		nodeCase{"too many ahead of a box out of bounds", oneTooMany(func(l []impl.Entry) { l[0].Rect = rectRange }), 2, impl.ErrMany},
		nodeCase{"too many ahead of a Ref", oneTooMany(func(l []impl.Entry) { l[0].Ref = -1 }), 2, impl.ErrMany},
		nodeCase{"too many ahead of a Nsn of a leaf", oneTooMany(func(l []impl.Entry) { l[0].Nsn = 1 }), 2, impl.ErrMany},
		nodeCase{"too many ahead of a Ref of an inner node", innerOf(entryOf(40, 0, good), entryOf(1, 0, good), entryOf(2, 0, good), entryOf(3, 0, good), entryOf(4, 0, good), entryOf(5, 0, good)), 2, impl.ErrMany},
		nodeCase{"too many ahead of a Ref twice", oneTooMany(func(l []impl.Entry) { l[1].Ref = l[0].Ref }), 2, impl.ErrMany})
}

func entriesFaultsAtOnce() []nodeCase {
	good := flat(0, 0, 1, 1)
	return []nodeCase{
		{"a box turned over ahead of its Ref", leafOf(entryOf(-1, 0, rectForm)), 2, impl.ErrForm},
		{"a box of other dims ahead of its Nsn", innerOf(entryOf(1, 100001, rectMany)), 2, impl.ErrMany},
		{"no box ahead of its Ref", innerOf(impl.Entry{Ref: 1000}), 2, impl.ErrMany},
		{"a box ahead of the next Ref", leafOf(entryOf(1, 0, rectForm), entryOf(-1, 0, good)), 2, impl.ErrForm},
		{"a Ref ahead of the next box", leafOf(entryOf(-1, 0, good), entryOf(1, 0, rectForm)), 2, impl.ErrRange},
		{"a Nsn ahead of the next box", innerOf(entryOf(1, -1, good), entryOf(2, 0, rectMany)), 2, impl.ErrRange},
		{"a box ahead of the next box", leafOf(entryOf(1, 0, rectForm), entryOf(2, 0, rectMany)), 2, impl.ErrForm},
		{"a box ahead of the next box, the other way round", leafOf(entryOf(1, 0, rectMany), entryOf(2, 0, rectForm)), 2, impl.ErrMany},
		{"a box of other dims ahead of its Nsn in a leaf", leafOf(entryOf(1, 1, rectMany)), 2, impl.ErrMany},
		{"a box out of bounds behind a leaf's Nsn", leafOf(entryOf(1, 1, good), entryOf(2, 0, rectRange)), 2, impl.ErrRange},
		{"a box of other dims behind an inner node's Ref", innerOf(entryOf(40, 1, good), entryOf(2, 0, rectMany)), 2, impl.ErrMany},
		{"a box of other dims behind a Ref twice", leafOf(entryOf(1, 0, good), entryOf(1, 0, good), entryOf(2, 0, rectMany)), 2, impl.ErrMany},
		{"a box turned over, and its Ref twice", leafOf(entryOf(1, 0, good), entryOf(1, 0, rectForm)), 2, impl.ErrForm},
		{"a Ref out of bounds, and its Nsn in a leaf", leafOf(entryOf(1000, 1, good)), 2, impl.ErrRange},
		{"a Ref out of bounds behind a leaf's Nsn", leafOf(entryOf(1, 1, good), entryOf(1000, 0, good)), 2, impl.ErrRange},
		{"a Nsn out of bounds, and its Ref in an inner node", innerOf(entryOf(40, -1, good)), 2, impl.ErrRange},
		{"a Nsn out of bounds behind an inner node's Ref", innerOf(entryOf(40, 1, good), entryOf(1, 100001, good)), 2, impl.ErrRange},
		{"a Ref out of bounds twice", leafOf(entryOf(1000, 0, good), entryOf(1000, 0, good)), 2, impl.ErrRange},
		{"a Ref out of bounds behind a Ref twice", leafOf(entryOf(1, 0, good), entryOf(1, 0, good), entryOf(-1, 0, good)), 2, impl.ErrRange},
		{"a leaf's Nsn, and its Ref twice", leafOf(entryOf(1, 1, good), entryOf(1, 1, good)), 2, impl.ErrForm},
		{"a leaf's Nsn behind a Ref twice", leafOf(entryOf(1, 0, good), entryOf(1, 0, good), entryOf(2, 1, good)), 2, impl.ErrForm},
		{"an inner node's Ref at MaxNodes twice", innerOf(entryOf(40, 1, good), entryOf(40, 1, good)), 2, impl.ErrForm},
		{"an inner node's Ref at MaxNodes behind a Ref twice", innerOf(entryOf(1, 1, good), entryOf(1, 1, good), entryOf(40, 1, good)), 2, impl.ErrForm},
	}
}

func allNodeFaults() []nodeCase {
	return slices.Concat(nodeFaults(), headFaultsAtOnce(), entriesFaultsAtOnce())
}

// sayNode asks all that is asked of a node with a fault, with other arguments
// that are right and that are not, and wants just this code.
func sayNode(t *testing.T, n impl.Node, dims int64, want int64) {
	t.Helper()
	if got := impl.NodeFault(n, dims); got != want {
		t.Errorf("NodeFault: %d, not %d", got, want)
	}
	wantBoxCode(t, impl.BoxOf(n, dims), want)
	for _, ref := range []int64{1, 30, 2, -1, 1000} {
		sayCode(t, "EntryFor", impl.EntryFor(n, dims, ref), want)
		wantNodeCode(t, "WithoutEntry", impl.WithoutEntry(n, dims, ref), want)
		for _, r := range []impl.Rect{rightBox(2), rightBox(3), rectForm, rectMany, rectRange, {}} {
			wantNodeCode(t, "WidenEntry", impl.WidenEntry(n, dims, ref, r), want)
			for _, nsn := range []int64{0, 1, -1} {
				wantNodeCode(t, "WithEntry", impl.WithEntry(n, dims, entryOf(ref, nsn, r)), want)
			}
		}
	}
}

// All that is asked of a node asks the NodeFault first, ahead of what else is
// wrong with the other arguments.
func TestNodeFault(t *testing.T) {
	for _, c := range allNodeFaults() {
		t.Run(c.name, func(t *testing.T) {
			sayNode(t, c.n, c.dims, c.want)
		})
	}
}

// Each fault of a box, at each place of a node.
func TestFaultOfABoxInANode(t *testing.T) {
	for _, c := range append(ownFaults(), otherFaults()...) {
		if c.dims != 2 && c.dims != 3 {
			continue
		}
		for _, level := range []int64{0, 1, 6} {
			for i := range 5 {
				n := impl.Node{Level: level, Entries: someEntries(level, c.dims, 5)}
				n.Entries[i].Rect = c.r
				if got := impl.NodeFault(n, c.dims); got != c.want {
					t.Errorf("%s, level %d, place %d: %d, not %d", c.name, level, i, got, c.want)
				}
			}
		}
	}
}

func TestRightNodes(t *testing.T) {
	eachNode(t, 0, 5, func(t *testing.T, n impl.Node, dims int64) {
		if got := impl.NodeFault(n, dims); got != impl.OK {
			t.Errorf("%d", got)
		}
	})
}

// What the numbers of an entry may be hangs on the level alone, whether it is
// in the node or put into it.
func TestNumbersOfAnEntry(t *testing.T) {
	cases := []struct {
		ref, nsn    int64
		leaf, inner int64
	}{
		{0, 0, impl.OK, impl.OK},
		{39, 0, impl.OK, impl.OK},
		{40, 0, impl.OK, impl.ErrForm},
		{41, 0, impl.OK, impl.ErrForm},
		{999, 0, impl.OK, impl.ErrForm},
		{1000, 0, impl.ErrRange, impl.ErrRange},
		{-1, 0, impl.ErrRange, impl.ErrRange},
		{0, 1, impl.ErrForm, impl.OK},
		{39, 1, impl.ErrForm, impl.OK},
		{39, 100000, impl.ErrForm, impl.OK},
		{39, 100001, impl.ErrRange, impl.ErrRange},
		{39, -1, impl.ErrRange, impl.ErrRange},
		{40, 1, impl.ErrForm, impl.ErrForm},
		{40, 100001, impl.ErrRange, impl.ErrRange},
		{1<<32 + 1, 0, impl.ErrRange, impl.ErrRange},
		{1, 1 << 32, impl.ErrRange, impl.ErrRange},
	}
	for _, c := range cases {
		for level := int64(0); level <= impl.MaxLevel; level++ {
			want := c.inner
			if level == 0 {
				want = c.leaf
			}
			e := entryOf(c.ref, c.nsn, flat(0, 0, 1, 1))
			for _, list := range [][]impl.Entry{nil, {entryOf(5, 0, flat(0, 0, 1, 1)), entryOf(6, 0, flat(0, 0, 1, 1))}} {
				n := impl.Node{Level: level, Right: impl.NoNode, Entries: list}
				if got := impl.NodeFault(holding(n, append(slices.Clone(list), e)), 2); got != want {
					t.Errorf("level %d, Ref %d, Nsn %d: %d, not %d", level, c.ref, c.nsn, got, want)
				}
				if got := impl.WithEntry(n, 2, e); got.Code != want || want != impl.OK && !likeNode(got.Node, impl.Node{}) {
					t.Errorf("level %d, WithEntry of Ref %d, Nsn %d: %v, not %d", level, c.ref, c.nsn, got, want)
				}
			}
		}
	}
}

func TestFaultOfTheEntryThatIsPut(t *testing.T) {
	good := flat(0, 0, 1, 1)
	leaf, fullLeaf := leafOf(someEntries(0, 2, 2)...), leafOf(someEntries(0, 2, 5)...)
	inner, fullInner := innerOf(someEntries(1, 2, 2)...), innerOf(someEntries(1, 2, 5)...)
	cases := []struct {
		name string
		n    impl.Node
		e    impl.Entry
		want int64
	}{
		{"no box", leaf, impl.Entry{Ref: 1}, impl.ErrMany},
		{"a box of other dims", leaf, entryOf(1, 0, rectMany), impl.ErrMany},
		{"a box out of bounds", inner, entryOf(1, 0, rectRange), impl.ErrRange},
		{"a box turned over", inner, entryOf(1, 0, rectForm), impl.ErrForm},
		{"a Ref below 0", leaf, entryOf(-1, 0, good), impl.ErrRange},
		{"a Ref above the bounds", leaf, entryOf(1000, 0, good), impl.ErrRange},
		{"a Nsn below 0", inner, entryOf(1, -1, good), impl.ErrRange},
		{"a Nsn above the bounds", inner, entryOf(1, 100001, good), impl.ErrRange},
		{"a leaf, and a Nsn", leaf, entryOf(1, 1, good), impl.ErrForm},
		{"no leaf, and the Ref MaxNodes", inner, entryOf(40, 1, good), impl.ErrForm},
		{"a Ref that is there", leaf, entryOf(30, 0, good), impl.ErrTaken},
		{"a Ref that is there, with all of its entry", leaf, leaf.Entries[1], impl.ErrTaken},
		{"a Ref that is there, with another Nsn", inner, entryOf(4, 77, good), impl.ErrTaken},
		{"no room", fullLeaf, entryOf(1, 0, good), impl.ErrFull},
		{"no room in an inner node", fullInner, entryOf(1, 1, good), impl.ErrFull},
		{"a box turned over ahead of the Ref", leaf, entryOf(-1, 0, rectForm), impl.ErrForm},
		{"a box of other dims ahead of the Nsn", inner, entryOf(1, 100001, rectMany), impl.ErrMany},
		{"a box of other dims ahead of a leaf's Nsn", leaf, entryOf(1, 1, rectMany), impl.ErrMany},
		{"a box out of bounds ahead of an inner node's Ref", inner, entryOf(40, 1, rectRange), impl.ErrRange},
		{"a box turned over ahead of a Ref that is there", leaf, entryOf(30, 0, rectForm), impl.ErrForm},
		{"no box ahead of no room", fullLeaf, impl.Entry{Ref: 1}, impl.ErrMany},
		{"a Ref out of bounds ahead of a leaf's Nsn", leaf, entryOf(1000, 1, good), impl.ErrRange},
		{"a Nsn out of bounds ahead of an inner node's Ref", inner, entryOf(40, 100001, good), impl.ErrRange},
		{"a Nsn out of bounds ahead of a Ref that is there", leaf, entryOf(30, -1, good), impl.ErrRange},
		{"a Ref out of bounds ahead of no room", fullInner, entryOf(-1, 0, good), impl.ErrRange},
		{"a leaf's Nsn ahead of a Ref that is there", leaf, entryOf(30, 1, good), impl.ErrForm},
		{"a leaf's Nsn ahead of no room", fullLeaf, entryOf(1, 1, good), impl.ErrForm},
		{"an inner node's Ref ahead of no room", fullInner, entryOf(40, 1, good), impl.ErrForm},
		{"a Ref that is there ahead of no room", fullLeaf, entryOf(517, 0, good), impl.ErrTaken},
		{"a Ref that is there ahead of no room in an inner node", fullInner, entryOf(30, 1, good), impl.ErrTaken},
	}
	for _, c := range cases {
		t.Run(c.name, func(t *testing.T) {
			wantNodeCode(t, "WithEntry", impl.WithEntry(c.n, 2, c.e), c.want)
		})
	}
}

// The same faults of a box are told of an entry that is put and of what an
// entry is widened by, ahead of a Ref that none has.
func TestFaultOfTheBoxThatComes(t *testing.T) {
	for _, c := range append(ownFaults(), otherFaults()...) {
		if c.dims != 2 && c.dims != 3 {
			continue
		}
		t.Run(c.name, func(t *testing.T) {
			for _, level := range []int64{0, 1, 6} {
				for _, count := range []int{0, 2, 5} {
					n := impl.Node{Level: level, Right: impl.NoNode, Entries: someEntries(level, c.dims, count)}
					for _, ref := range []int64{30, 2, -1, 1000} {
						wantNodeCode(t, "WithEntry", impl.WithEntry(n, c.dims, entryOf(ref, 0, c.r)), c.want)
						wantNodeCode(t, "WidenEntry", impl.WidenEntry(n, c.dims, ref, c.r), c.want)
					}
				}
			}
		})
	}
}

func TestRefThatNoneHas(t *testing.T) {
	eachNode(t, 0, 5, func(t *testing.T, n impl.Node, dims int64) {
		for _, ref := range []int64{1, 29, 31, 40, 998, -1, 1000, math.MinInt64, math.MaxInt64, 1<<32 + 30} {
			sayNotHeld(t, n, dims, ref)
		}
	})
}
