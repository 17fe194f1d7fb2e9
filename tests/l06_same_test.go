package tests

import (
	"fmt"
	"testing"

	"loop.example/g00680/impl"
)

// brokenTree has every fault that a tree can have.
func brokenTree() impl.Tree {
	return impl.Tree{Style: -5, Arena: brokenArena(), Root: -8, RootNsn: -9, Counter: -7}
}

func sameTreesToAsk() []impl.Tree {
	return []impl.Tree{
		{}, impl.NewTree(2, impl.StyleQuad, 4).Tree, oneLevel(2, 3), twoLevels(3), threeLevels(2), rightTree(), brokenTree(),
		turnedTree(twoLevels(2), cutTo(3)), {Style: 7}, {Root: 8}, {RootNsn: 7}, {Counter: 7}, {Arena: impl.Arena{Dims: 7}},
	}
}

func saySameTrees(t *testing.T, what string, a impl.Tree, b impl.Tree, want bool) {
	t.Helper()
	if impl.SameTrees(a, b) != want || impl.SameTrees(b, a) != want {
		t.Errorf("%s: not %v of %v and %v", what, want, a, b)
	}
}

// eachTreeChange tells copies of a tree with just one thing changed.
func eachTreeChange(t impl.Tree, tell func(what string, c impl.Tree)) {
	for what, turn := range map[string]func(c *impl.Tree){
		"a greater Style":   func(c *impl.Tree) { c.Style++ },
		"a lesser Style":    func(c *impl.Tree) { c.Style-- },
		"a greater Root":    func(c *impl.Tree) { c.Root++ },
		"a lesser Root":     func(c *impl.Tree) { c.Root-- },
		"a greater RootNsn": func(c *impl.Tree) { c.RootNsn++ },
		"a lesser RootNsn":  func(c *impl.Tree) { c.RootNsn-- },
		"a greater Counter": func(c *impl.Tree) { c.Counter++ },
		"a lesser Counter":  func(c *impl.Tree) { c.Counter-- },
	} {
		tell(what, turnedTree(t, turn))
	}
	eachArenaChange(t.Arena, func(what string, a impl.Arena) {
		tell(what, turnedTree(t, func(c *impl.Tree) { c.Arena = a }))
	})
}

func TestSameTrees(t *testing.T) {
	for _, tr := range sameTreesToAsk() {
		saySameTrees(t, "one and itself", tr, cloneTree(tr), true)
		eachTreeChange(tr, func(what string, c impl.Tree) {
			saySameTrees(t, what, tr, c, false)
			saySameTrees(t, what+", and itself", c, cloneTree(c), true)
		})
	}
}

func TestTreesThatDiffer(t *testing.T) {
	list := sameTreesToAsk()
	for i, a := range list {
		for k, b := range list {
			saySameTrees(t, fmt.Sprint(i, " and ", k), a, b, i == k)
		}
	}
	for _, dims := range []int64{2, 3} {
		for _, c := range stateCases(dims) {
			saySameTrees(t, c.name, c.t, cloneTree(c.t), true)
		}
	}
}

// Numbers that change places between the fields are not the same.
func TestFieldsOfATreeAreNotMixed(t *testing.T) {
	a := impl.Tree{Style: 1, Root: 2, RootNsn: 3, Counter: 4}
	for _, b := range []impl.Tree{
		{Style: 2, Root: 1, RootNsn: 3, Counter: 4},
		{Style: 1, Root: 3, RootNsn: 2, Counter: 4},
		{Style: 1, Root: 2, RootNsn: 4, Counter: 3},
		{Style: 4, Root: 2, RootNsn: 3, Counter: 1},
		{Style: 3, Root: 2, RootNsn: 1, Counter: 4},
		{Style: 1, Root: 4, RootNsn: 3, Counter: 2},
	} {
		saySameTrees(t, "mixed", a, b, false)
	}
}

func TestSameTreesWithEmptyLists(t *testing.T) {
	empty := impl.Tree{Arena: impl.Arena{Nodes: []impl.Node{}, Free: []int64{}, Retired: []impl.Retired{}}}
	saySameTrees(t, "empty and nil", empty, impl.Tree{}, true)
	entries := impl.Tree{Arena: impl.Arena{Nodes: []impl.Node{{Entries: []impl.Entry{}}}}}
	saySameTrees(t, "no entries and nil", entries, impl.Tree{Arena: impl.Arena{Nodes: []impl.Node{{}}}}, true)
	watched := impl.Tree{Arena: impl.Arena{Retired: []impl.Retired{{Watch: []int64{}}}}}
	saySameTrees(t, "nobody and nil", watched, impl.Tree{Arena: impl.Arena{Retired: []impl.Retired{{}}}}, true)
	saySameTrees(t, "a zero node and none", entries, impl.Tree{}, false)
	saySameTrees(t, "a zero retired place and none", watched, impl.Tree{}, false)
}
