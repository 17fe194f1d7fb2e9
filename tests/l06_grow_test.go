package tests

import (
	"slices"

	"loop.example/g00680/impl"
)

// idBox is a box that hangs on the Id alone.
func idBox(dims int64, id int64) impl.Rect {
	x, y, z := id*37%401-200, id*53%301-150, id*71%201-100
	if dims == 3 {
		return solid(x, y, z, x+id%7, y+id%11, z+id%13)
	}
	return flat(x, y, x+id%7, y+id%11)
}

// leafWith has the pairs of these Ids.
func leafWith(dims int64, nsn int64, right int64, ids ...int64) impl.Node {
	n := impl.Node{Nsn: nsn, Right: right}
	for _, id := range ids {
		n.Entries = append(n.Entries, entryOf(id, 0, idBox(dims, id)))
	}
	return n
}

// innerWith tells of the nodes at these places. What it knows of them is set
// by fitted.
func innerWith(dims int64, level int64, nsn int64, right int64, refs ...int64) impl.Node {
	n := impl.Node{Level: level, Nsn: nsn, Right: right}
	for _, ref := range refs {
		n.Entries = append(n.Entries, entryOf(ref, 0, rightBox(dims)))
	}
	return n
}

func cloneTree(t impl.Tree) impl.Tree {
	t.Arena = cloneArena(t.Arena)
	return t
}

func likeTree(a impl.Tree, b impl.Tree) bool {
	return a.Style == b.Style && a.Root == b.Root && a.RootNsn == b.RootNsn && a.Counter == b.Counter && likeArena(a.Arena, b.Arena)
}

// turnedTree is a copy of the tree on which all turns were done, in order.
func turnedTree(t impl.Tree, turns ...func(t *impl.Tree)) impl.Tree {
	t = cloneTree(t)
	for _, turn := range turns {
		turn(&t)
	}
	return t
}

// fitted is a copy of the tree in which each entry has the Nsn and the box of
// the node that it tells of, from the lowest nodes up.
func fitted(t impl.Tree) impl.Tree {
	t = cloneTree(t)
	for level := int64(1); level <= impl.MaxLevel; level++ {
		for _, n := range t.Arena.Nodes {
			if n.Level == level {
				fitEntries(t.Arena.Nodes, n.Entries)
			}
		}
	}
	return t
}

func fitEntries(nodes []impl.Node, list []impl.Entry) {
	for i, e := range list {
		if e.Ref < 0 || e.Ref >= int64(len(nodes)) {
			continue
		}
		list[i].Nsn = nodes[e.Ref].Nsn
		if below := nodes[e.Ref].Entries; len(below) > 0 {
			list[i].Rect = smallestBox(below)
		}
	}
}

// oneLevel has a leaf with so many entries as its root, at the place 2; 0 and 4
// are free, 3 and 1 are retired.
func oneLevel(dims int64, count int) impl.Tree {
	a := freshArena(dims, 5)
	a.Free = []int64{0, 4}
	a.Nodes[1] = leafWith(dims, 6, 4, 30, 31, 32)
	a.Nodes[2] = leafWith(dims, 5, 3, []int64{30, 4, 999, 0, 517}[:count]...)
	a.Nodes[3] = innerWith(dims, 3, 2, impl.NoNode, 2, 39, 0)
	a.Retired = []impl.Retired{retiredAt(3, 0, 1, 2, 3), retiredAt(1, 2)}
	return impl.Tree{Style: impl.StyleQuad, Arena: a, Root: 2, RootNsn: 5, Counter: 6}
}

// twoLevels has its root at the place 4, which tells of the leaves 8, 0 and 2;
// 1, 6 and 7 are free, 5 and 3 are retired.
func twoLevels(dims int64) impl.Tree {
	a := freshArena(dims, 9)
	a.Free = []int64{1, 6, 7}
	a.Nodes[4] = innerWith(dims, 1, 5, 39, 8, 0, 2)
	a.Nodes[8] = leafWith(dims, 0, 3, 40, 998, 39, 1)
	a.Nodes[0] = leafWith(dims, 3, 2, 30, 4)
	a.Nodes[2] = leafWith(dims, 9, impl.NoNode, 999, 0, 517)
	a.Nodes[5] = innerWith(dims, 6, 1, 3, 39)
	a.Nodes[3] = leafWith(dims, 8, 0, 30, 7, 8, 9, 10)
	a.Retired = []impl.Retired{retiredAt(5, 1), retiredAt(3, 0, 2)}
	return fitted(impl.Tree{Style: impl.StyleStar, Arena: a, Root: 4, RootNsn: 5, Counter: 9})
}

// threeLevels has its root at the place 10, which tells of 3 and 14; 3 tells of
// the leaves 16, 0 and 7, and 14 of 5 and 1; 12, 6 and 13 are retired, and the
// others are free.
func threeLevels(dims int64) impl.Tree {
	a := freshArena(dims, 17)
	a.Free = []int64{2, 4, 8, 9, 11, 15}
	a.Nodes[10] = innerWith(dims, 2, 6, impl.NoNode, 3, 14)
	a.Nodes[3] = innerWith(dims, 1, 12, 14, 16, 0, 7)
	a.Nodes[16] = leafWith(dims, 11, 0, 50, 20)
	a.Nodes[0] = leafWith(dims, 7, 7, 10, 60, 30)
	a.Nodes[7] = leafWith(dims, 2, 5, 1, 2, 3, 4)
	a.Nodes[14] = innerWith(dims, 1, 3, impl.NoNode, 5, 1)
	a.Nodes[5] = leafWith(dims, 0, impl.NoNode, 999, 0)
	a.Nodes[1] = leafWith(dims, 12, 1, 100, 70, 80)
	a.Nodes[6] = leafWith(dims, 10, 38, 1, 2)
	a.Nodes[13] = innerWith(dims, 1, 4, 3, 16, 0)
	a.Retired = []impl.Retired{retiredAt(12, 3), retiredAt(6, 0, 2), retiredAt(13, 0, 1, 2, 3)}
	return fitted(impl.Tree{Style: impl.StyleQuad, Arena: a, Root: 10, RootNsn: 6, Counter: 12})
}

// manyPairs have no two Ids alike, which neither rise nor fall.
func manyPairs(dims int64, count int) []impl.Pair {
	var list []impl.Pair
	for i := range int64(count) {
		list = append(list, pairOf(i*401%1000, idBox(dims, i*401%1000)))
	}
	return list
}

// grow lays the pairs into leaves, into each as many as the first sizes tell,
// and the nodes of each level into those above so; it is right, if the sizes
// are. The places at which the nodes are neither rise nor fall.
func grow(dims int64, pairs []impl.Pair, sizes ...[]int) impl.Tree {
	t := impl.Tree{Arena: freshArena(dims, impl.MaxNodes), Counter: 50}
	var below []impl.Entry
	for _, p := range pairs {
		below = append(below, entryOf(p.Id, 0, p.Rect))
	}
	laid := int64(0)
	for level, list := range sizes {
		var above []impl.Entry
		for _, size := range list {
			n := impl.Node{Level: int64(level), Nsn: laid * 7 % 51, Right: laid%41 - 1, Entries: below[:size]}
			t.Root, t.RootNsn = (laid*7+3)%impl.MaxNodes, n.Nsn
			t.Arena.Nodes[t.Root] = n
			t.Arena.Free = slices.DeleteFunc(t.Arena.Free, func(id int64) bool { return id == t.Root })
			above = append(above, entryOf(t.Root, 0, rightBox(dims)))
			below = below[size:]
			laid++
		}
		below = above
	}
	return fitted(t)
}

// grown has as many pairs as its leaves have room for.
func grown(dims int64, sizes ...[]int) impl.Tree {
	count := 0
	for _, size := range sizes[0] {
		count += size
	}
	return grow(dims, manyPairs(dims, count), sizes...)
}

// times is a list of so many sizes that are alike.
func times(count int, size int) []int {
	return slices.Repeat([]int{size}, count)
}
