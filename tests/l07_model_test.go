package tests

import (
	"fmt"
	"slices"
	"testing"

	"loop.example/g00680/impl"
)

// What chapter 7 tells is told here a second time, by the lists of a tree and
// by what the models of the chapters ahead choose and part.

// putter is a tree into which a pair is put, with a copy of it behind each
// step.
type putter struct {
	t     impl.Tree
	trees []impl.Tree
}

func (x *putter) at(id int64) *impl.Node {
	return &x.t.Arena.Nodes[id]
}

func (x *putter) note() {
	x.trees = append(x.trees, cloneTree(x.t))
}

func (x *putter) lay(n impl.Node) int64 {
	id := x.t.Arena.Free[0]
	x.t.Arena = afterTake(x.t.Arena, n)
	return id
}

func (x *putter) knownAs(id int64) impl.Entry {
	return entryOf(id, x.at(id).Nsn, smallestBox(x.at(id).Entries))
}

// descend tells the nodes from the root to the leaf, and widens the entries
// between.
func (x *putter) descend(r impl.Rect) []int64 {
	way := []int64{x.t.Root}
	for x.at(way[len(way)-1]).Level > 0 {
		list := x.at(way[len(way)-1]).Entries
		i := modelChoice(list, r)
		list[i].Rect = smallestBox([]impl.Entry{list[i], entryOf(0, 0, r)})
		way = append(way, list[i].Ref)
		x.note()
	}
	return way
}

func (x *putter) part(hand int64) int64 {
	n, split := cloneNode(*x.at(hand)), modelQuad
	if x.t.Style == impl.StyleStar {
		split = func(list []impl.Entry) ([]impl.Entry, []impl.Entry) { return modelStar(list, x.t.Arena.Dims) }
	}
	first, second := split(n.Entries)
	id := x.lay(impl.Node{Level: n.Level, Nsn: n.Nsn, Right: n.Right, Entries: slices.Clone(second)})
	x.t.Counter++
	*x.at(hand) = impl.Node{Level: n.Level, Nsn: x.t.Counter, Right: id, Entries: slices.Clone(first)}
	x.note()
	return id
}

func (x *putter) crown(hand int64, fresh int64) {
	both := []impl.Entry{x.knownAs(hand), x.knownAs(fresh)}
	x.t.Root = x.lay(impl.Node{Level: x.at(hand).Level + 1, Nsn: x.t.Counter, Right: -1, Entries: both})
	x.t.RootNsn = x.t.Counter
	x.note()
}

func (x *putter) tell(upper int64, hand int64, fresh int64) {
	list := x.at(upper).Entries
	for i := range list {
		if list[i].Ref == hand {
			list[i] = x.knownAs(hand)
		}
	}
	x.at(upper).Entries = append(list, x.knownAs(fresh))
	x.note()
}

func modelTrace(t impl.Tree, p impl.Pair) []impl.Tree {
	x := &putter{t: cloneTree(t)}
	way := x.descend(p.Rect)
	leaf := x.at(way[len(way)-1])
	leaf.Entries = append(leaf.Entries, entryOf(p.Id, 0, p.Rect))
	x.note()
	for i := len(way) - 1; i >= 0 && len(x.at(way[i]).Entries) > 4; i-- {
		fresh := x.part(way[i])
		if i == 0 {
			x.crown(way[0], fresh)
			break
		}
		x.tell(way[i-1], way[i], fresh)
	}
	return x.trees
}

func modelPutCode(t impl.Tree, p impl.Pair) int64 {
	if code := modelTreeFault(t); code != impl.OK {
		return code
	}
	if p.Id < 0 || p.Id > 999 {
		return impl.ErrRange
	}
	if code := impl.RectFault(p.Rect, t.Arena.Dims); code != impl.OK {
		return code
	}
	pairs, need := tourOf(t).pairs, t.Arena.Nodes[t.Root].Level+2
	if slices.Contains(idsOf(pairs), p.Id) {
		return impl.ErrTaken
	}
	if int64(len(t.Arena.Free)) < need || t.Counter+need > 100000 || len(pairs) >= 60 {
		return impl.ErrFull
	}
	return impl.OK
}

// sayNotPut wants this code, and nothing else.
func sayNotPut(t *testing.T, what string, tr impl.Tree, p impl.Pair, want int64) {
	t.Helper()
	if got := impl.PutTrace(tr, p); got.Code != want || len(got.Trees) != 0 {
		t.Fatalf("%s: PutTrace %v, not the code %d alone", what, got, want)
	}
	wantTreeCode(t, what+": PutInto", impl.PutInto(tr, p), want)
}

// sayPut wants just what the model tells, and, where the pair is put in, what
// promise 8 tells of the tree. Its answers are those of PutTrace.
func sayPut(t *testing.T, what string, tr impl.Tree, p impl.Pair) impl.TraceResult {
	t.Helper()
	if want := modelPutCode(tr, p); want != impl.OK {
		sayNotPut(t, what, tr, p, want)
		return impl.TraceResult{Code: want}
	}
	got, want := impl.PutTrace(tr, p), modelTrace(tr, p)
	sayTrees(t, what, got, want)
	last := want[len(want)-1]
	sayTreeIs(t, what, impl.PutInto(tr, p), last)
	sayPutIn(t, what, tr, p, last)
	return got
}

// sayPutIn is promise 8.
func sayPutIn(t *testing.T, what string, was impl.Tree, p impl.Pair, now impl.Tree) {
	t.Helper()
	sayRight(t, what, now)
	if why := tourOf(now).why; len(why) > 0 {
		t.Fatalf("%s: %v of\n%s", what, why, told(now))
	}
	want := sortedPairs(append(tourOf(was).pairs, p))
	wantPairs(t, what+": PairsIn", impl.PairsIn(now), want)
	wantPairs(t, what+": AskTree", impl.AskTree(now, insideOf(p.Rect)), impl.AnswerOf(want, now.Arena.Dims, insideOf(p.Rect)).Pairs)
}

// roomier has so many more places, all of them free, behind the others.
func roomier(tr impl.Tree, more int) impl.Tree {
	tr = cloneTree(tr)
	for range more {
		tr.Arena.Free = append(tr.Arena.Free, int64(len(tr.Arena.Nodes)))
		tr.Arena.Nodes = append(tr.Arena.Nodes, vacant())
	}
	return tr
}

// startTrees have pairs of few Ids, retired places and free ones between, and
// room for more.
func startTrees(dims int64, style int64) []impl.Tree {
	list := []impl.Tree{impl.NewTree(dims, style, 40).Tree, roomier(twoLevels(dims), 31), roomier(threeLevels(dims), 23)}
	for count := range 5 {
		list = append(list, roomier(oneLevel(dims, count), 7*count))
	}
	for i := range list {
		list[i].Style = style
	}
	return list
}

// heaps tell boxes by a number: far apart, alike, in rows, one in the other, and
// made of few numbers and of many.
func heaps(dims int64) map[string]func(i int64) impl.Rect {
	cube := func(x int64, y int64, z int64, size int64) impl.Rect {
		if dims == 3 {
			return solid(x, y, z, x+size, y+size, z+size)
		}
		return flat(x, y, x+size, y+size)
	}
	made := func(width int64) func(i int64) impl.Rect {
		m := &mill{uint64(width)}
		return func(i int64) impl.Rect { return m.entries(dims, 1, width)[0].Rect }
	}
	return map[string]func(i int64) impl.Rect{
		"far apart":         func(i int64) impl.Rect { return idBox(dims, i*401%1000) },
		"alike":             func(i int64) impl.Rect { return cube(2, 2, 2, 2) },
		"points alike":      func(i int64) impl.Rect { return cube(-7, 7, 0, 0) },
		"a row that rises":  func(i int64) impl.Rect { return cube(2*i, 0, 0, 1) },
		"a row that falls":  func(i int64) impl.Rect { return cube(0, -2*i, 0, 1) },
		"from both ends":    func(i int64) impl.Rect { return cube(0, (i%2*2-1)*(900-10*i), 0, 3) },
		"one in the other":  func(i int64) impl.Rect { return cube(-i, -i, -i, 2*i) },
		"rounds of nine":    func(i int64) impl.Rect { return cube(i%3*10, i/3%3*10, 0, 5) },
		"of two numbers":    made(2),
		"of four numbers":   made(4),
		"of twelve numbers": made(12),
		"of many numbers":   made(2001),
	}
}

// putMany puts pairs in until there is no room, and counts how many nodes each
// of them parted. It tells the tree then, and the code. Ahead of each third
// pair it tries an Id that is there.
func putMany(t *testing.T, what string, tr impl.Tree, boxAt func(i int64) impl.Rect, parted map[int]int) (impl.Tree, int64) {
	t.Helper()
	for i := range int64(100) {
		id := (i*401 + 333) % 1000
		if slices.Contains(idsOf(tourOf(tr).pairs), id) {
			continue
		}
		p := pairOf(id, boxAt(i))
		if i%3 == 2 {
			sayNotPut(t, what, tr, pairOf(((i-1)*401+333)%1000, p.Rect), impl.ErrTaken)
		}
		got := sayPut(t, fmt.Sprintf("%s, the pair %d", what, i), tr, p)
		if got.Code != impl.OK {
			return tr, got.Code
		}
		was := tr
		tr = got.Trees[len(got.Trees)-1]
		parted[int(tr.Counter-was.Counter)]++
	}
	return tr, impl.OK
}

// Promise 8, of many pairs that are put in one after the other, until there are
// as many as may be, or no room is left.
func TestManyPairsArePutIn(t *testing.T) {
	for dims := int64(2); dims <= 3; dims++ {
		for style := range int64(2) {
			t.Run(fmt.Sprintf("%d dims, style %d", dims, style), func(t *testing.T) {
				t.Parallel()
				sayManyPutIn(t, dims, style)
			})
		}
	}
}

func sayManyPutIn(t *testing.T, dims int64, style int64) {
	t.Helper()
	ends, parted := map[string]int{}, map[int]int{}
	for name, boxAt := range heaps(dims) {
		for i, tr := range startTrees(dims, style) {
			what := fmt.Sprintf("%s, into the tree %d", name, i)
			end, code := putMany(t, what, tr, boxAt, parted)
			if code != impl.ErrFull {
				t.Fatalf("%s: the code %d", what, code)
			}
			ends[endOf(end)]++
		}
	}
	if ends["all pairs"] < 5 || ends["no room"] < 5 || len(ends) != 2 {
		t.Errorf("it ended by %v", ends)
	}
	if parted[0] < 500 || parted[1] < 200 || parted[2] < 20 || parted[3] < 5 {
		t.Errorf("so many nodes were parted: %v", parted)
	}
}

func endOf(tr impl.Tree) string {
	if len(tourOf(tr).pairs) == 60 {
		return "all pairs"
	}
	if int64(len(tr.Arena.Free)) < tr.Arena.Nodes[tr.Root].Level+2 {
		return "no room"
	}
	return "nothing"
}

// One pair that is put into each right tree, wherever it is.
func TestOnePairIntoEachRightTree(t *testing.T) {
	eachRightTree(t, func(t *testing.T, c treeCase) {
		dims := c.t.Arena.Dims
		for style := range int64(2) {
			c.t.Style = style
			for i, p := range manyPairs(dims, 30) {
				p.Id = 1000 - 7*(int64(i)+1)
				sayPut(t, fmt.Sprint("the pair ", i), c.t, p)
			}
			for id, r := range []impl.Rect{utmostBox(dims), {Low: utmostBox(dims).Low, High: utmostBox(dims).Low}, {Low: utmostBox(dims).High, High: utmostBox(dims).High}} {
				sayPut(t, "at the bounds", c.t, pairOf(int64(id)*499+2, r))
			}
		}
	})
}

// A pair that is a leaf's box, or at its corner, or between two leaves: there
// growths are alike most often.
func TestPairsByTheBoxesOfATree(t *testing.T) {
	for dims := int64(2); dims <= 3; dims++ {
		for _, tr := range []impl.Tree{oneLevel(dims, 4), twoLevels(dims), threeLevels(dims)} {
			var boxes []impl.Rect
			for _, n := range tr.Arena.Nodes {
				for _, e := range n.Entries {
					boxes = append(boxes, e.Rect, impl.Rect{Low: e.Rect.Low, High: e.Rect.Low}, impl.Rect{Low: e.Rect.High, High: e.Rect.High})
				}
			}
			for i, r := range boxes {
				between := impl.UnionOf(r, boxes[(i*5+1)%len(boxes)]).Rect
				sayPut(t, "a box of the tree", tr, pairOf(555, r))
				sayPut(t, "two boxes of the tree", tr, pairOf(555, between))
			}
		}
	}
}
