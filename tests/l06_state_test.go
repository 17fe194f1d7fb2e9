package tests

import (
	"fmt"
	"slices"
	"testing"

	"loop.example/g00680/impl"
)

// stateCase is a tree that makes ErrState, with all that is not so of it.
type stateCase struct {
	name string
	t    impl.Tree
	why  []string
}

func state(name string, t impl.Tree, why ...string) stateCase {
	slices.Sort(why)
	return stateCase{name, t, why}
}

func rootCases(dims int64) []stateCase {
	fresh := impl.Tree{Arena: freshArena(dims, 4), Root: 2}
	list := []stateCase{
		state("a root that is free, as all places are", fresh, whyRoot),
		state("a root that is free beside one that is not", turnedTree(twoLevels(dims), func(t *impl.Tree) { t.Root, t.RootNsn = 1, 0 }), whyRoot, whyUnmet),
	}
	for _, tr := range []impl.Tree{oneLevel(dims, 0), oneLevel(dims, 4), twoLevels(dims), threeLevels(dims)} {
		list = append(list,
			state("a root that is retired", turnedTree(tr, func(t *impl.Tree) { t.Arena.Retired = append(t.Arena.Retired, retiredAt(t.Root, 1)) }), whyRoot),
			state("a lesser RootNsn", turnedTree(tr, func(t *impl.Tree) { t.RootNsn-- }), whyRootNsn),
			state("a greater RootNsn", turnedTree(tr, func(t *impl.Tree) { t.RootNsn++ }), whyRootNsn),
			state("the least RootNsn", turnedTree(tr, func(t *impl.Tree) { t.RootNsn = 0 }), whyRootNsn),
			state("the greatest RootNsn", turnedTree(tr, func(t *impl.Tree) { t.RootNsn = impl.MaxNsn }), whyRootNsn),
			state("a RootNsn that another node has", turnedTree(tr, func(t *impl.Tree) { t.RootNsn = t.Counter }), whyRootNsn))
	}
	return append(list, state("a root that is a leaf of the tree", turnedTree(twoLevels(dims), func(t *impl.Tree) { t.Root, t.RootNsn = 8, 0 }), whyUnmet))
}

// Each node alone has a number that was never given: one of the walk, and a
// retired one.
func counterCases(dims int64) []stateCase {
	var list []stateCase
	for _, tr := range []impl.Tree{oneLevel(dims, 0), twoLevels(dims), threeLevels(dims)} {
		for id := range int64(len(tr.Arena.Nodes)) {
			if isFree(tr.Arena, id) {
				continue
			}
			above := func(n int64) impl.Tree {
				return fitted(turnedTree(tr, func(t *impl.Tree) {
					t.Arena.Nodes[id].Nsn = n
					t.RootNsn = t.Arena.Nodes[t.Root].Nsn
				}))
			}
			list = append(list, state(fmt.Sprint("a Nsn one above Counter at ", id), above(tr.Counter+1), whyCounter))
			list = append(list, state(fmt.Sprint("the greatest Nsn at ", id), above(impl.MaxNsn), whyCounter))
		}
		list = append(list, state("a Counter one too small", turnedTree(tr, func(t *impl.Tree) { t.Counter-- }), whyCounter))
	}
	return list
}

func countCases(dims int64) []stateCase {
	list := []stateCase{
		state("a root that is a leaf with five", grown(dims, []int{5}), whyMost),
		state("a root with five", grown(dims, times(5, 2), []int{5}), whyMost),
		state("a root with five, above others", grown(dims, times(10, 2), times(5, 2), []int{5}), whyMost),
		state("a node with five", grown(dims, times(7, 2), []int{5, 2}, []int{2}), whyMost),
		state("a later node with five", grown(dims, times(7, 2), []int{2, 5}, []int{2}), whyMost),
		state("a leaf with one and one with five", grown(dims, []int{5, 1}, []int{2}), whyMost, whyLeast),
		state("a leaf with one, and with the root's Nsn", fitted(turnedTree(grown(dims, []int{2, 1}, []int{2}), allZero)), whyLeast),
		state("a node with one", grown(dims, times(3, 2), []int{1, 2}, []int{2}), whyLeast),
		state("a later node with one", grown(dims, times(3, 2), []int{2, 1}, []int{2}), whyLeast),
		state("a node with none", grown(dims, times(2, 2), []int{0, 2}, []int{2}), whyLeast, whyBox),
		state("a later node with none", grown(dims, times(2, 2), []int{2, 0}, []int{2}), whyLeast, whyBox),
		state("a root with one", grown(dims, []int{4}, []int{1}), whyLeast),
		state("a root with one, above others", grown(dims, times(4, 2), []int{4}, []int{1}), whyLeast),
		state("a root above leaves with none", grown(dims, nil, []int{0}), whyLeast),
		state("a root at the utmost Level with none", grown(dims, nil, nil, nil, nil, nil, nil, []int{0}), whyLeast),
	}
	for leaf := range 3 {
		sizes := []int{2, 3, 4}
		for _, size := range []int{5, 1, 0} {
			sizes[leaf] = size
			why := map[int][]string{5: {whyMost}, 1: {whyLeast}, 0: {whyLeast, whyBox}}[size]
			list = append(list, state(fmt.Sprintf("the leaf %d with %d", leaf, size), grown(dims, sizes, []int{3}), why...))
		}
	}
	return list
}

// vacate takes a node out of the tree's places, whoever tells of it.
func vacate(id int64) func(t *impl.Tree) {
	return func(t *impl.Tree) { t.Arena = afterFree(t.Arena, id) }
}

func retire(id int64) func(t *impl.Tree) {
	return func(t *impl.Tree) { t.Arena.Retired = append(t.Arena.Retired, retiredAt(id, 0, 3)) }
}

func cutTo(room int) func(t *impl.Tree) {
	return func(t *impl.Tree) { t.Arena.Nodes = t.Arena.Nodes[:room] }
}

// alsoTells puts an entry that fits in every way behind the others of a node.
func alsoTells(id int64, ref int64) func(t *impl.Tree) {
	return func(t *impl.Tree) {
		dims := t.Arena.Dims
		t.Arena.Nodes[id].Entries = append(t.Arena.Nodes[id].Entries, entryOf(ref, 0, rightBox(dims)))
		t.Arena = fitted(*t).Arena
	}
}

// moveEntry puts an entry of one node behind those of another one.
func moveEntry(from int64, k int, to int64) func(t *impl.Tree) {
	return func(t *impl.Tree) {
		nodes := t.Arena.Nodes
		nodes[to].Entries = append(nodes[to].Entries, nodes[from].Entries[k])
		nodes[from].Entries = slices.Delete(nodes[from].Entries, k, k+1)
		t.Arena = fitted(*t).Arena
	}
}

// forget takes the last entry out of a node that has three.
func forget(id int64) func(t *impl.Tree) {
	return func(t *impl.Tree) {
		t.Arena.Nodes[id].Entries = t.Arena.Nodes[id].Entries[:2]
		t.Arena = fitted(*t).Arena
	}
}

// tellsItself gives a node an entry of the node itself, whose box is that of
// all others, so that it is also that of the node.
func tellsItself(id int64) func(t *impl.Tree) {
	return func(t *impl.Tree) {
		n := &t.Arena.Nodes[id]
		n.Entries = append(n.Entries, entryOf(id, n.Nsn, smallestBox(n.Entries)))
	}
}

func levelTo(id int64, level int64) func(t *impl.Tree) {
	return func(t *impl.Tree) { t.Arena.Nodes[id].Level = level }
}

func wayCases(dims int64) []stateCase {
	two := func(turns ...func(t *impl.Tree)) impl.Tree { return turnedTree(twoLevels(dims), turns...) }
	three := func(turns ...func(t *impl.Tree)) impl.Tree { return turnedTree(threeLevels(dims), turns...) }
	list := []stateCase{
		state("an entry that tells of no place", two(cutTo(8)), whyPlace),
		state("an entry that tells of no place, in three levels", three(cutTo(16)), whyPlace),
		state("one more entry that tells of the last place of all", two(alsoTells(4, 39)), whyPlace),
		state("one more entry that tells of a free place", two(alsoTells(4, 6)), whyFree),
		state("one more entry that tells of a retired leaf", three(alsoTells(3, 6)), whyRetired),
		state("one more entry that tells of a retired node", three(alsoTells(10, 13)), whyRetired),
		state("a leaf that was met ahead", three(alsoTells(14, 16)), whyMet),
		state("a leaf that is met again later", three(alsoTells(3, 5)), whyMet),
		state("a root that tells of itself", two(tellsItself(4)), whyMet),
		state("a root that tells of itself, in three levels", three(tellsItself(10)), whyMet),
		state("a node that tells of itself", three(tellsItself(14)), whyMet),
		state("a node that tells of the root", three(alsoTells(14, 10)), whyMet),
		state("a node that tells of the one beside it", three(alsoTells(14, 3)), whyMet),
		state("a root that tells of a leaf, two levels below", three(moveEntry(3, 1, 10)), whyLevel),
		state("a root that is as high as what is below it", three(levelTo(10, 1)), whyLevel),
		state("a node that is as high as the root", three(levelTo(3, 2)), whyLevel),
		state("a node that is higher than the root", three(levelTo(14, 3)), whyLevel),
		state("a place in use that is not met", two(func(t *impl.Tree) { t.Arena.Free = []int64{1, 7} }), whyUnmet),
		state("a leaf that nothing tells of any more", two(forget(4)), whyUnmet),
		state("a leaf that the node above tells of no more", three(forget(3)), whyUnmet),
	}
	for level := int64(2); level <= impl.MaxLevel; level++ {
		list = append(list, state(fmt.Sprint("a root of the Level ", level, " above leaves"), two(levelTo(4, level)), whyLevel))
	}
	return list
}

// Each node but the root is free, retired, or told of by nobody.
func goneCases(dims int64) []stateCase {
	var list []stateCase
	for _, tr := range []impl.Tree{twoLevels(dims), threeLevels(dims)} {
		for _, id := range tourOf(tr).met[1:] {
			unmet := unmetIf(tr.Arena.Nodes[id].Level > 0)
			list = append(list,
				state(fmt.Sprintf("the place %d is free", id), turnedTree(tr, vacate(id)), append(unmet, whyFree)...),
				state(fmt.Sprintf("the place %d is retired", id), turnedTree(tr, retire(id)), append(unmet, whyRetired)...))
		}
		for i, r := range tr.Arena.Retired {
			back := func(t *impl.Tree) { t.Arena.Retired = slices.Delete(t.Arena.Retired, i, i+1) }
			list = append(list, state(fmt.Sprintf("the place %d is not retired", r.Id), turnedTree(tr, back), whyUnmet))
		}
	}
	return list
}

func unmetIf(so bool) []string {
	if so {
		return []string{whyUnmet}
	}
	return nil
}

// eachWay goes through the entries of the nodes of a tree that are no leaves.
func eachWay(t impl.Tree, tell func(id int, k int)) {
	for id, n := range t.Arena.Nodes {
		for k := range n.Entries {
			if n.Level > 0 && !isRetired(t.Arena, int64(id)) {
				tell(id, k)
			}
		}
	}
}

// Each entry that is not that of a leaf has another Nsn than the node that it
// tells of, and another box: one number of it is one more or one less.
func knownCases(dims int64) []stateCase {
	var list []stateCase
	for _, tr := range []impl.Tree{twoLevels(dims), threeLevels(dims)} {
		eachWay(tr, func(id int, k int) {
			at := fmt.Sprintf("the entry %d of %d: ", k, id)
			add := func(what string, why string, turn func(e *impl.Entry)) {
				turned := turnedTree(tr, func(t *impl.Tree) { turn(&t.Arena.Nodes[id].Entries[k]) })
				list = append(list, state(at+what, turned, why))
			}
			add("a greater Nsn", whyNsn, func(e *impl.Entry) { e.Nsn++ })
			if tr.Arena.Nodes[id].Entries[k].Nsn > 0 {
				add("a lesser Nsn", whyNsn, func(e *impl.Entry) { e.Nsn-- })
			}
			for axis := range dims {
				add(fmt.Sprint("a lesser Low, axis ", axis), whyBox, func(e *impl.Entry) { e.Rect.Low[axis]-- })
				add(fmt.Sprint("a greater Low, axis ", axis), whyBox, func(e *impl.Entry) { e.Rect.Low[axis]++ })
				add(fmt.Sprint("a lesser High, axis ", axis), whyBox, func(e *impl.Entry) { e.Rect.High[axis]-- })
				add(fmt.Sprint("a greater High, axis ", axis), whyBox, func(e *impl.Entry) { e.Rect.High[axis]++ })
			}
			add("the utmost box", whyBox, func(e *impl.Entry) { e.Rect = utmostBox(dims) })
		})
	}
	return list
}

// Each two leaves have one Ref, with one box or with two.
func twiceCases(dims int64) []stateCase {
	var list []stateCase
	for _, tr := range []impl.Tree{twoLevels(dims), threeLevels(dims)} {
		reach := tourOf(tr).met
		for _, first := range reach {
			for _, second := range reach {
				if first == second || tr.Arena.Nodes[first].Level > 0 || tr.Arena.Nodes[second].Level > 0 {
					continue
				}
				last := len(tr.Arena.Nodes[second].Entries) - 1
				other := func(t *impl.Tree) { t.Arena.Nodes[second].Entries[last].Ref = t.Arena.Nodes[first].Entries[0].Ref }
				same := func(t *impl.Tree) { t.Arena.Nodes[second].Entries[last] = t.Arena.Nodes[first].Entries[0] }
				at := fmt.Sprintf("in %d and %d", first, second)
				list = append(list, state("a Ref twice "+at, turnedTree(tr, other), whyTwice), state("a pair twice "+at, fitted(turnedTree(tr, same)), whyTwice))
			}
		}
	}
	return list
}

func stateCases(dims int64) []stateCase {
	return slices.Concat(rootCases(dims), counterCases(dims), countCases(dims), wayCases(dims), goneCases(dims), knownCases(dims), twiceCases(dims))
}

// Just what each case names is not so, and it alone makes ErrState.
func TestWhatMakesErrState(t *testing.T) {
	for dims := int64(2); dims <= 3; dims++ {
		for _, c := range stateCases(dims) {
			if why := tourOf(c.t).why; !slices.Equal(why, c.why) {
				t.Errorf("%s: %v, not %v", c.name, why, c.why)
			}
			sayTreeFault(t, c.name, c.t, impl.ErrState)
		}
	}
}

// What stands at a free place has no number: it is told by the ArenaFault.
func TestNsnAtAFreePlace(t *testing.T) {
	for dims := int64(2); dims <= 3; dims++ {
		for _, tr := range []impl.Tree{oneLevel(dims, 2), twoLevels(dims), threeLevels(dims)} {
			for _, id := range tr.Arena.Free {
				for _, nsn := range []int64{1, tr.Counter, tr.Counter + 1, impl.MaxNsn} {
					turned := turnedTree(tr, func(t *impl.Tree) { t.Arena.Nodes[id].Nsn = nsn })
					sayTreeFault(t, fmt.Sprint("the Nsn ", nsn, " at ", id), turned, impl.ErrForm)
				}
			}
		}
	}
}

// A Ref that is twice in one node is told by the ArenaFault.
func TestRefTwiceInOneNodeOfATree(t *testing.T) {
	for dims := int64(2); dims <= 3; dims++ {
		for _, tr := range []impl.Tree{oneLevel(dims, 2), twoLevels(dims), threeLevels(dims)} {
			for id, n := range tr.Arena.Nodes {
				for i := range n.Entries {
					for k := range i {
						turned := turnedTree(tr, func(t *impl.Tree) { t.Arena.Nodes[id].Entries[i].Ref = n.Entries[k].Ref })
						sayTreeFault(t, fmt.Sprint("in the node ", id), turned, impl.ErrTaken)
					}
				}
			}
		}
	}
}

// What a retired node holds is not in the tree, whatever it tells of.
func TestRetiredNodesAreNotInTheTree(t *testing.T) {
	for dims := int64(2); dims <= 3; dims++ {
		for _, tr := range []impl.Tree{oneLevel(dims, 4), twoLevels(dims), threeLevels(dims)} {
			want := impl.PairsIn(tr)
			for _, r := range tr.Arena.Retired {
				for _, n := range []impl.Node{vacant(), leafWith(dims, 0, 3, 1, 30, 999, 0, 517), innerWith(dims, 6, 5, 7, 39, 4, 10, 0), tr.Arena.Nodes[tr.Root]} {
					turned := turnedTree(tr, func(t *impl.Tree) { t.Arena.Nodes[r.Id] = n })
					if !sayAsModel(t, "retired", turned) {
						t.Fatalf("a fault: %v", tourOf(turned).why)
					}
					wantPairs(t, "PairsIn", impl.PairsIn(turned), want.Pairs)
				}
			}
		}
	}
}
