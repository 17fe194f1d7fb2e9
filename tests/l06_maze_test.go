package tests

import (
	"fmt"
	"math"
	"testing"

	"loop.example/g00680/impl"
)

// A maze is a tree whose numbers follow a rule of their own: most have faults
// of many kinds, and some have ways that go round or nowhere.
type maze struct {
	state uint64
}

func (m *maze) next(most int64) int64 {
	m.state = m.state*6364136223846793005 + 1442695040888963407
	return int64(m.state >> 33 % uint64(most))
}

func (m *maze) number() int64 {
	odd := []int64{-1, 39, 40, 999, 1000, 100000, 100001, 1 << 32, math.MinInt64, math.MaxInt64}
	if m.next(900) == 0 {
		return odd[m.next(int64(len(odd)))]
	}
	return m.next(6)
}

func (m *maze) point() []int64 {
	list := make([]int64, 2)
	if m.next(900) == 0 {
		list = make([]int64, m.next(5))
	}
	for i := range list {
		list[i] = m.number()
	}
	return list
}

func (m *maze) entries() []impl.Entry {
	var list []impl.Entry
	first := m.next(7)
	for i := range m.next(6) {
		p := m.point()
		list = append(list, entryOf((first+i)%7, 0, impl.Rect{Low: p, High: p}))
		if m.next(40) == 0 {
			list[i] = entryOf(m.number(), m.next(2), impl.Rect{Low: p, High: m.point()})
		}
	}
	return list
}

func (m *maze) tree() impl.Tree {
	t := impl.Tree{Style: m.next(2), Root: m.number(), RootNsn: m.next(2), Counter: m.number(), Arena: impl.Arena{Dims: 2}}
	for range 4 + m.next(3) {
		t.Arena.Nodes = append(t.Arena.Nodes, impl.Node{Level: m.next(3), Nsn: m.next(2), Right: m.number(), Entries: m.entries()})
	}
	if m.next(4) == 0 {
		t.Arena.Free = []int64{m.number()}
	}
	if m.next(4) == 0 {
		t.Arena = afterFree(t.Arena, m.next(4))
	}
	for range m.next(3) {
		t.Arena.Retired = append(t.Arena.Retired, impl.Retired{Id: m.number(), Watch: []int64{m.number()}})
	}
	return t
}

// sayAnswered asks all of the tree, and wants an answer and no panic.
func sayAnswered(t *testing.T, tr impl.Tree) {
	t.Helper()
	defer func() {
		if told := recover(); told != nil {
			t.Fatalf("a panic, %v, by %v", told, tr)
		}
	}()
	code := impl.TreeFault(tr)
	if code != modelTreeFault(tr) {
		t.Fatalf("%d, not %d: %v", code, modelTreeFault(tr), tr)
	}
	if code != impl.OK {
		sayTreeFault(t, fmt.Sprint(tr), tr, code)
	}
	x := treeArgs{tr, nearTo(20, 0, 0)}
	x.answers()
}

func TestNoPanicIsSeen(t *testing.T) {
	m := &maze{}
	codes := map[int64]int{}
	for range 6000 {
		tr := m.tree()
		sayAnswered(t, tr)
		if impl.ArenaFault(tr.Arena) == impl.OK {
			sayAnswered(t, fitted(tr))
		}
		codes[impl.TreeFault(tr)]++
	}
	for _, code := range []int64{impl.ErrForm, impl.ErrMany, impl.ErrRange, impl.ErrTaken, impl.ErrState} {
		if codes[code] < 50 {
			t.Errorf("seldom the code %d: %v", code, codes)
		}
	}
	for _, tr := range sameTreesToAsk() {
		sayAnswered(t, tr)
	}
	for dims := int64(2); dims <= 3; dims++ {
		for _, c := range stateCases(dims) {
			sayAnswered(t, c.t)
		}
	}
}
