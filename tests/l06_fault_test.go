package tests

import (
	"fmt"
	"math"
	"slices"
	"testing"

	"loop.example/g00680/impl"
)

// treeTurn makes a tree with a fault of rightTree. Of two turns the one with
// the lesser rank is named first in the chapter.
type treeTurn struct {
	rank int
	name string
	want int64
	turn func(t *impl.Tree)
}

// treeFault is a tree with a fault.
type treeFault struct {
	name string
	t    impl.Tree
	want int64
}

// rightTree has the arena of someArena(2), so that what is wrong with that can
// be asked of it: its root is the leaf at the place 3, and 0 is retired, too.
func rightTree() impl.Tree {
	a := cloneArena(someArena(2))
	a.Nodes[3] = leafWith(2, 4, 6, 30, 4, 999)
	a.Retired = append(a.Retired, retiredAt(0, 1))
	return impl.Tree{Style: impl.StyleStar, Arena: a, Root: 3, RootNsn: 4, Counter: 20}
}

// The arena's turns have ranks of their own, which are all below these.
const rankOfTreeRange = 8
const rankOfTreeState = 9

func rangeTurns() []treeTurn {
	var list []treeTurn
	add := func(what string, turn func(t *impl.Tree, n int64), numbers ...int64) {
		for _, n := range numbers {
			list = append(list, treeTurn{rankOfTreeRange, fmt.Sprint(what, " ", n), impl.ErrRange, func(t *impl.Tree) { turn(t, n) }})
		}
	}
	add("Style", func(t *impl.Tree, n int64) { t.Style = n }, -1, 2, 3, 1<<32, 1<<32+1, math.MinInt64, math.MaxInt64)
	add("Root", func(t *impl.Tree, n int64) { t.Root = n }, impl.NoNode, -2, 9, 10, 39, 40, 1<<32, 1<<32+3, math.MinInt64, math.MaxInt64)
	add("RootNsn", func(t *impl.Tree, n int64) { t.RootNsn = n }, -1, 100001, 1<<32+4, math.MinInt64, math.MaxInt64)
	add("Counter", func(t *impl.Tree, n int64) { t.Counter = n }, -1, 100001, 1<<32+20, math.MinInt64, math.MaxInt64)
	return list
}

func stateTurns() []treeTurn {
	state := func(name string, turn func(t *impl.Tree)) treeTurn {
		return treeTurn{rankOfTreeState, name, impl.ErrState, turn}
	}
	return []treeTurn{
		state("a root that is free", func(t *impl.Tree) { t.Root, t.RootNsn = 2, 0 }),
		state("a root that is retired", func(t *impl.Tree) { t.Root, t.RootNsn = 4, 14 }),
		state("a root that is retired, and a leaf", func(t *impl.Tree) { t.Arena.Retired = append(t.Arena.Retired, retiredAt(3, 2)) }),
		state("a lesser RootNsn", func(t *impl.Tree) { t.RootNsn = 3 }),
		state("a greater RootNsn", func(t *impl.Tree) { t.RootNsn = 5 }),
		state("a Counter below the root's Nsn", func(t *impl.Tree) { t.Counter = 3 }),
		state("a Counter below a retired Nsn", func(t *impl.Tree) { t.Counter = 16 }),
		state("five entries", func(t *impl.Tree) { t.Arena.Nodes[3] = leafWith(2, 4, 6, 1, 2, 3, 4, 5) }),
		state("no entry above a leaf", func(t *impl.Tree) { t.Arena.Nodes[3] = innerWith(2, 1, 4, 6) }),
		state("an entry that tells of a free place", func(t *impl.Tree) { t.Arena.Nodes[3] = innerWith(2, 1, 4, 6, 2) }),
		state("entries that tell of retired places", func(t *impl.Tree) { t.Arena.Nodes[3] = innerWith(2, 1, 4, 6, 0, 4) }),
		state("a place that is not met", func(t *impl.Tree) { t.Arena.Retired = t.Arena.Retired[:4] }),
	}
}

func treeTurns() []treeTurn {
	var list []treeTurn
	for _, c := range arenaTurns() {
		list = append(list, treeTurn{c.rank, c.name, c.want, func(t *impl.Tree) { c.turn(&t.Arena) }})
	}
	return slices.Concat(list, rangeTurns(), stateTurns())
}

func treeFaults() []treeFault {
	list := []treeFault{{"the zero value", impl.Tree{}, impl.ErrRange}}
	for _, c := range treeTurns() {
		list = append(list, treeFault{c.name, turnedTree(rightTree(), c.turn), c.want})
	}
	return list
}

// Where two are so at once, the one that the chapter names first is told. It is
// turned last, so that it is so whatever the other one does.
func treeFaultsAtOnce() []treeFault {
	var list []treeFault
	for _, early := range treeTurns() {
		for _, late := range treeTurns() {
			if early.rank < late.rank && late.rank >= rankOfTreeRange {
				name := early.name + " ahead of: " + late.name
				list = append(list, treeFault{name, turnedTree(rightTree(), late.turn, early.turn), early.want})
			}
		}
	}
	return list
}

// sayTreeFault asks all that is asked of a tree with a fault, with queries that
// are right and that are not, and wants just this code.
func sayTreeFault(t *testing.T, what string, tr impl.Tree, want int64) {
	t.Helper()
	if got := impl.TreeFault(tr); got != want {
		t.Errorf("%s: TreeFault %d, not %d", what, got, want)
	}
	sayCode(t, what+": HeightOf", impl.HeightOf(tr), want)
	sayCode(t, what+": NeedOf", impl.NeedOf(tr), want)
	if got := impl.ReachOf(tr); got.Code != want || len(got.List) != 0 {
		t.Errorf("%s: ReachOf %v, not the code %d alone", what, got, want)
	}
	wantCode(t, what+": PairsIn", impl.PairsIn(tr), want)
	for _, q := range []impl.Query{windowOf(utmostBox(2)), nearTo(20, 0, 0, 0), pointAt(1), insideOf(rectForm), nearTo(0, 0, 0), {Kind: 9}, {}} {
		wantCode(t, what+": AskTree", impl.AskTree(tr, q), want)
	}
}

func TestTreeFault(t *testing.T) {
	if got := impl.TreeFault(rightTree()); got != impl.OK {
		t.Fatalf("the tree that is turned: %d, %v", got, tourOf(rightTree()).why)
	}
	for _, c := range append(treeFaults(), treeFaultsAtOnce()...) {
		sayTreeFault(t, c.name, c.t, c.want)
	}
}

// The ArenaFault, whatever it is, is told ahead of all that is wrong with the
// other fields.
func TestFaultOfTheArenaOfATree(t *testing.T) {
	for _, c := range allArenaFaults() {
		for _, tr := range []impl.Tree{{Arena: c.a, Counter: 100}, {Style: 2, Arena: c.a, Root: -1, RootNsn: -1, Counter: -1}, {Arena: c.a, Root: 40}} {
			if got := impl.TreeFault(tr); got != c.want {
				t.Errorf("%s: %d, not %d", c.name, got, c.want)
			}
		}
	}
}

// Each fault of a node is told of a node of the walk, of a retired one, and of
// one that stands at a free place.
func TestFaultOfANodeInATree(t *testing.T) {
	for _, c := range allNodeFaults() {
		if c.dims != 2 && c.dims != 3 {
			continue
		}
		for id := range int64(9) {
			tr := turnedTree(twoLevels(c.dims), func(x *impl.Tree) { x.Arena.Nodes[id] = c.n })
			if got := impl.TreeFault(tr); got != c.want {
				t.Errorf("%s, at the place %d: %d, not %d", c.name, id, got, c.want)
			}
		}
	}
}

// What is out of its bounds is told ahead of each thing that makes ErrState.
func TestRangeIsToldAheadOfState(t *testing.T) {
	for dims := int64(2); dims <= 3; dims++ {
		for _, c := range stateCases(dims) {
			if impl.ArenaFault(c.t.Arena) != impl.OK {
				t.Fatalf("%s: a fault of the arena", c.name)
			}
			for _, early := range []func(x *impl.Tree){
				func(x *impl.Tree) { x.Style = 2 },
				func(x *impl.Tree) { x.Style = -1 },
				func(x *impl.Tree) { x.Root = impl.NoNode },
				func(x *impl.Tree) { x.Root = int64(len(x.Arena.Nodes)) },
				func(x *impl.Tree) { x.RootNsn = -1 },
				func(x *impl.Tree) { x.RootNsn = impl.MaxNsn + 1 },
				func(x *impl.Tree) { x.Counter = -1 },
				func(x *impl.Tree) { x.Counter = impl.MaxNsn + 1 },
			} {
				if got := impl.TreeFault(turnedTree(c.t, early)); got != impl.ErrRange {
					t.Errorf("%s: %d, not ErrRange", c.name, got)
				}
			}
		}
	}
}
