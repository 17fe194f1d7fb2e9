package tests

import (
	"fmt"
	"slices"
	"testing"

	"loop.example/g00680/impl"
)

// brokenArena has every fault that an arena can have.
func brokenArena() impl.Arena {
	return impl.Arena{
		Dims:    -3,
		Nodes:   []impl.Node{brokenNode(), {}, nodeAt(3, 3)},
		Free:    []int64{7, -1, 7, 1, 0},
		Retired: []impl.Retired{retiredAt(-4), retiredAt(1, 9, 9, -2, 0, 1, 3), retiredAt(1, 3, 2)},
	}
}

func sameArenasToAsk() []impl.Arena {
	return []impl.Arena{
		{}, freshArena(2, 4), fullArena(3, 4), someArena(2), someArena(3), brokenArena(),
		{Dims: 2}, {Free: []int64{0}}, {Retired: []impl.Retired{{}}}, {Nodes: []impl.Node{{}}},
	}
}

func saySameArenas(t *testing.T, what string, a impl.Arena, b impl.Arena, want bool) {
	t.Helper()
	if impl.SameArenas(a, b) != want || impl.SameArenas(b, a) != want {
		t.Errorf("%s: not %v of %v and %v", what, want, a, b)
	}
}

// eachArenaChange tells copies of an arena with just one thing changed.
func eachArenaChange(a impl.Arena, tell func(what string, c impl.Arena)) {
	change := func(what string, turn func(c *impl.Arena)) {
		c := cloneArena(a)
		turn(&c)
		tell(what, c)
	}
	change("one more Dims", func(c *impl.Arena) { c.Dims++ })
	change("one less Dims", func(c *impl.Arena) { c.Dims-- })
	changeNodes(a, change)
	changeFree(a, change)
	changeRetired(a, change)
}

func changeNodes(a impl.Arena, change func(what string, turn func(c *impl.Arena))) {
	change("one node more", func(c *impl.Arena) { c.Nodes = append(c.Nodes, vacant()) })
	change("a zero node more", func(c *impl.Arena) { c.Nodes = append(c.Nodes, impl.Node{}) })
	for i, n := range a.Nodes {
		at := fmt.Sprintf(" of the node %d", i)
		for what, changed := range changesOf(n) {
			change(what+at, func(c *impl.Arena) { c.Nodes[i] = changed })
		}
		change("no place"+at, func(c *impl.Arena) { c.Nodes = slices.Delete(c.Nodes, i, i+1) })
		for k := range i {
			if !likeNode(n, a.Nodes[k]) {
				change("other order"+at, func(c *impl.Arena) { c.Nodes[i], c.Nodes[k] = c.Nodes[k], c.Nodes[i] })
			}
		}
	}
}

func changeFree(a impl.Arena, change func(what string, turn func(c *impl.Arena))) {
	change("one free place more", func(c *impl.Arena) { c.Free = append(c.Free, 0) })
	change("one free place more ahead", func(c *impl.Arena) { c.Free = append([]int64{-7}, c.Free...) })
	for i := range a.Free {
		at := fmt.Sprintf(" of the free place %d", i)
		change("number"+at, func(c *impl.Arena) { c.Free[i]++ })
		change("no place"+at, func(c *impl.Arena) { c.Free = slices.Delete(c.Free, i, i+1) })
		for k := range i {
			if a.Free[i] != a.Free[k] {
				change("other order"+at, func(c *impl.Arena) { c.Free[i], c.Free[k] = c.Free[k], c.Free[i] })
			}
		}
	}
}

func changeRetired(a impl.Arena, change func(what string, turn func(c *impl.Arena))) {
	change("one retired place more", func(c *impl.Arena) { c.Retired = append(c.Retired, retiredAt(0, 1)) })
	change("a zero retired place more", func(c *impl.Arena) { c.Retired = append(c.Retired, impl.Retired{}) })
	for i, r := range a.Retired {
		at := fmt.Sprintf(" of the retired place %d", i)
		change("Id"+at, func(c *impl.Arena) { c.Retired[i].Id-- })
		change("one more"+at, func(c *impl.Arena) { c.Retired[i].Watch = append(c.Retired[i].Watch, 0) })
		change("no place"+at, func(c *impl.Arena) { c.Retired = slices.Delete(c.Retired, i, i+1) })
		for k := range r.Watch {
			change(fmt.Sprint("who watches, ", k, at), func(c *impl.Arena) { c.Retired[i].Watch[k]++ })
			change(fmt.Sprint("one less, ", k, at), func(c *impl.Arena) { c.Retired[i].Watch = slices.Delete(c.Retired[i].Watch, k, k+1) })
		}
		for k := range len(r.Watch) - 1 {
			if w := r.Watch; w[k] != w[k+1] {
				change("other order"+at, func(c *impl.Arena) { slices.Reverse(c.Retired[i].Watch[k : k+2]) })
			}
		}
		for k := range i {
			change("other order"+at, func(c *impl.Arena) { c.Retired[i], c.Retired[k] = c.Retired[k], c.Retired[i] })
		}
	}
}

func TestSameArenas(t *testing.T) {
	for _, a := range sameArenasToAsk() {
		saySameArenas(t, "one and itself", a, cloneArena(a), true)
		eachArenaChange(a, func(what string, c impl.Arena) {
			saySameArenas(t, what, a, c, false)
			saySameArenas(t, what+", and itself", c, cloneArena(c), true)
		})
	}
}

func TestArenasThatDiffer(t *testing.T) {
	list := sameArenasToAsk()
	for i, a := range list {
		for k, b := range list {
			saySameArenas(t, fmt.Sprint(i, " and ", k), a, b, i == k)
		}
	}
}

func TestSameArenasWithEmptyLists(t *testing.T) {
	empty := impl.Arena{Nodes: []impl.Node{}, Free: []int64{}, Retired: []impl.Retired{}}
	saySameArenas(t, "empty and nil", empty, impl.Arena{}, true)
	saySameArenas(t, "no entries and nil", impl.Arena{Nodes: []impl.Node{{Entries: []impl.Entry{}}}}, impl.Arena{Nodes: []impl.Node{{}}}, true)
	saySameArenas(t, "nobody and nil", impl.Arena{Retired: []impl.Retired{{Watch: []int64{}}}}, impl.Arena{Retired: []impl.Retired{{}}}, true)
	saySameArenas(t, "a zero node and none", impl.Arena{Nodes: []impl.Node{{}}}, impl.Arena{}, false)
	saySameArenas(t, "the place 0 and none", impl.Arena{Free: []int64{0}}, impl.Arena{}, false)
	saySameArenas(t, "a zero retired place and none", impl.Arena{Retired: []impl.Retired{{}}}, impl.Arena{}, false)
}

// More than there can ever be is still the same.
func TestSameArenasOfMany(t *testing.T) {
	a, b := freshArena(2, 300), freshArena(2, 300)
	for i := range int64(300) {
		a.Retired = append(a.Retired, retiredAt(i, 0, 1, 2, 3))
		b.Retired = append(b.Retired, retiredAt(i, 0, 1, 2, 3))
	}
	saySameArenas(t, "many", a, b, true)
	b.Retired[299].Watch[3]++
	saySameArenas(t, "many, and another one at the end", a, b, false)
}
