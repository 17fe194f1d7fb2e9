package tests

import (
	"fmt"
	"maps"
	"slices"
	"testing"

	"loop.example/g00680/impl"
)

// filled has pairs put in, one after the other, until there are so many or no
// room is left.
func filled(tr impl.Tree, count int, boxAt func(i int64) impl.Rect) impl.Tree {
	for i := range int64(count) {
		if got := impl.PutInto(tr, pairOf((i*401+333)%1000, boxAt(i))); got.Code == impl.OK {
			tr = got.Tree
		}
	}
	return tr
}

// orders tell in which order the pairs of a tree are taken out.
func orders() []func(tr impl.Tree) []impl.Pair {
	byId := func(tr impl.Tree) []impl.Pair { return sortedPairs(tourOf(tr).pairs) }
	return []func(tr impl.Tree) []impl.Pair{
		byId,
		func(tr impl.Tree) []impl.Pair { return tourOf(tr).pairs },
		func(tr impl.Tree) []impl.Pair {
			list := byId(tr)
			return slices.Concat(list[len(list)/2:], list[:len(list)/2])
		},
		func(tr impl.Tree) []impl.Pair {
			list := byId(tr)
			m := &mill{uint64(len(list))}
			for i := range list {
				k := m.below(int64(i) + 1)
				list[i], list[k] = list[k], list[i]
			}
			return list
		},
	}
}

// heapNames are always told in one order, so that what is done with them, one
// after the other, is the same each time.
func heapNames() []string {
	return slices.Sorted(maps.Keys(heaps(2)))
}

// takeAll takes these pairs out, while some watch at times, and some look away
// at others.
func takeAll(t *testing.T, what string, tr impl.Tree, list []impl.Pair, done map[string]int) impl.Tree {
	t.Helper()
	for i, p := range list {
		var watch []int64
		if i%3 > 0 {
			watch = watches()[(i*5+3)%16]
		}
		code, x := sayDrop(t, fmt.Sprintf("%s, the pair %d", what, i), tr, p, watch)
		if code != impl.OK {
			t.Fatalf("%s: the code %d", what, code)
		}
		for _, did := range x.did {
			done[did]++
		}
		tr = x.t
		if i%7 == 6 {
			tr.Arena = impl.EndWatch(tr.Arena, int64(i/7%4)).Arena
		}
	}
	return tr
}

// Promise 9, of many pairs that were put in and are taken out one after the
// other, until none is there.
func TestManyPairsAreTakenOut(t *testing.T) {
	t.Parallel()
	for dims := int64(2); dims <= 3; dims++ {
		for style := range int64(2) {
			t.Run(fmt.Sprintf("%d dims, style %d", dims, style), func(t *testing.T) {
				t.Parallel()
				sayManyTakenOut(t, dims, style)
			})
		}
	}
}

func sayManyTakenOut(t *testing.T, dims int64, style int64) {
	t.Helper()
	done := map[string]int{}
	starts, all := startTrees(dims, style), heaps(dims)
	for i, name := range heapNames() {
		for k, order := range orders() {
			full := filled(starts[0], 60-5*i, all[name])
			if (i+k)%3 == 2 {
				full = filled(starts[1+i%(len(starts)-1)], 60, all[name])
			}
			what := fmt.Sprintf("%s, the order %d", name, k)
			sayEmptied(t, what, takeAll(t, what, full, order(full), done))
		}
	}
	for _, did := range []string{didSeekInVain, didSeekNothing, didFit, didStay, didJoinAhead, didJoinBehind, didShareOne, didShareBoth, didMendTwice, didFree, didRetire, didTurnRoot} {
		if done[did] < 5 {
			t.Errorf("seldom: %s: %v", did, done)
		}
	}
	// A node that has one entry and one that has four give each side two or
	// three, so that something always comes from the neighbour.
	if done[didShareOther] > 0 {
		t.Errorf("%s: %v", didShareOther, done)
	}
}

// sayEmptied wants a tree without pairs, whose root is a leaf and the only
// place in use, and which takes pairs in again.
func sayEmptied(t *testing.T, what string, tr impl.Tree) {
	t.Helper()
	wantPairs(t, what+": PairsIn", impl.PairsIn(tr), nil)
	sameInt(t, what+": HeightOf", impl.HeightOf(tr), 1)
	a := tr.Arena
	if len(a.Free)+len(a.Retired) != len(a.Nodes)-1 || len(a.Nodes[tr.Root].Entries) > 0 {
		t.Fatalf("%s: places are left over:\n%s", what, told(tr))
	}
	for client := range int64(4) {
		a = impl.EndWatch(a, client).Arena
	}
	if len(a.Free) != len(a.Nodes)-1 || len(a.Retired) > 0 {
		t.Fatalf("%s: places are not free:\n%s", what, told(tr))
	}
	tr.Arena = a
	sayPut(t, what+", again", tr, pairOf(7, rightBox(a.Dims)))
}

// What PutInto and DropFrom tell by turns: more is put in than is taken out
// first, and then the other way round.
func TestPutAndDropByTurns(t *testing.T) {
	t.Parallel()
	for dims := int64(2); dims <= 3; dims++ {
		for style := range int64(2) {
			t.Run(fmt.Sprintf("%d dims, style %d", dims, style), func(t *testing.T) {
				t.Parallel()
				for _, name := range heapNames() {
					sayByTurns(t, name, impl.NewTree(dims, style, 20).Tree, heaps(dims)[name])
				}
			})
		}
	}
}

func sayByTurns(t *testing.T, name string, tr impl.Tree, boxAt func(i int64) impl.Rect) {
	t.Helper()
	var there []impl.Pair
	m := &mill{11}
	for i := range int64(150) {
		what := fmt.Sprintf("%s, the turn %d", name, i)
		if m.below(100) < 75-i/3 && len(there) < 40 {
			p := pairOf((i*401+333)%1000, boxAt(i))
			if code := impl.PutTrace(tr, p).Code; code != impl.OK {
				t.Fatalf("%s: the code %d", what, code)
			}
			tr, there = impl.PutInto(tr, p).Tree, append(there, p)
		} else if len(there) > 0 {
			k := int(m.below(int64(len(there))))
			sayDrop(t, what, tr, there[k], nil)
			tr, there = impl.DropFrom(tr, there[k]).Tree, slices.Delete(there, k, k+1)
		}
		wantPairs(t, what, impl.PairsIn(tr), sortedPairs(there))
	}
}

// One pair that is taken out of each right tree, whichever it is; who watches
// may be wrong.
func TestOnePairOutOfEachRightTree(t *testing.T) {
	t.Parallel()
	eachRightTree(t, func(t *testing.T, c treeCase) {
		right, wrong := watches(), wrongWatches()
		for style := range int64(2) {
			c.t.Style = style
			for i, p := range tourOf(c.t).pairs {
				sayDrop(t, fmt.Sprint("the pair ", i), c.t, p, right[(i*7+3)%len(right)])
				sayDrop(t, fmt.Sprint("the pair ", i), c.t, p, wrong[(i*7+3)%len(wrong)])
			}
		}
	})
}

// What was put into a tree and taken out again leaves the pairs that were there
// ahead.
func TestPutAndDropUndo(t *testing.T) {
	eachRightTree(t, func(t *testing.T, c treeCase) {
		was := impl.PairsIn(c.t)
		for i, p := range manyPairs(c.t.Arena.Dims, 12) {
			p.Id = 1000 - 7*(int64(i)+1)
			put := impl.PutInto(c.t, p)
			if put.Code == impl.OK {
				sayDrop(t, "what was put in", put.Tree, p, nil)
				wantPairs(t, "PairsIn", impl.PairsIn(impl.DropFrom(put.Tree, p).Tree), was.Pairs)
			}
		}
	})
}

// placesAsIds have pairs whose Ids are the places of the nodes, all with one
// box and without a number, so that an entry of a node looks like a pair.
func placesAsIds(dims int64) []impl.Tree {
	var list []impl.Tree
	for _, sizes := range [][][]int{{{4}}, {times(3, 3), {3}}, {times(4, 3), {2, 2}, {2}}, {times(8, 2), times(4, 2), {2, 2}, {2}}} {
		count := 0
		for _, size := range sizes[0] {
			count += size
		}
		var pairs []impl.Pair
		for i := range int64(count) {
			pairs = append(pairs, pairOf((i*7+3)%impl.MaxNodes, rightBox(dims)))
		}
		list = append(list, fitted(turnedTree(grow(dims, pairs, sizes...), allZero)))
	}
	return list
}

func TestPairsThatLookLikeNodes(t *testing.T) {
	for dims := int64(2); dims <= 3; dims++ {
		for i, tr := range placesAsIds(dims) {
			alike := 0
			for _, n := range tr.Arena.Nodes {
				for _, e := range n.Entries {
					if n.Level > 0 && isIn(tourOf(tr).pairs, pairOf(e.Ref, e.Rect)) && e.Nsn == 0 {
						alike++
					}
				}
			}
			if alike < 3 && i > 0 {
				t.Fatalf("%d look like nodes", alike)
			}
			for _, p := range tourOf(tr).pairs {
				if code, _ := sayDrop(t, "alike", tr, p, []int64{1, 2}); code != impl.OK {
					t.Fatalf("the code %d", code)
				}
			}
			sayEmptied(t, "alike", takeAll(t, "alike", tr, tourOf(tr).pairs, map[string]int{}))
		}
	}
}
