package tests

import (
	"fmt"
	"slices"
	"strconv"
	"strings"

	"loop.example/g00680/impl"
)

// A tree is written in lines:
//
//	dims 2
//	style 0
//	root 4.7 (its place and RootNsn)
//	counter 9
//	retired 3:0,2 1:3 (each place with who watches)
//	5 free (a place)
//	2 L0 n5 r3 9=4,4/5,5 (Level, Nsn, Right and the entries of a leaf)
//	4 L1 n7 r-1 2.5=4,4/5,5 (each entry with its Nsn, of another node)

func numberIn(word string) int64 {
	n, err := strconv.ParseInt(word, 10, 64)
	if err != nil {
		panic(err)
	}
	return n
}

func numbersIn(word string) []int64 {
	var list []int64
	for _, w := range strings.Split(word, ",") {
		list = append(list, numberIn(w))
	}
	return list
}

func entryIn(word string) impl.Entry {
	name, corners, _ := strings.Cut(word, "=")
	low, high, _ := strings.Cut(corners, "/")
	ref, nsn, known := strings.Cut(name, ".")
	e := entryOf(numberIn(ref), 0, impl.Rect{Low: numbersIn(low), High: numbersIn(high)})
	if known {
		e.Nsn = numberIn(nsn)
	}
	return e
}

func pairIn(word string) impl.Pair {
	e := entryIn(word)
	return pairOf(e.Ref, e.Rect)
}

func nodeIn(words []string) impl.Node {
	n := impl.Node{Level: numberIn(words[0][1:]), Nsn: numberIn(words[1][1:]), Right: numberIn(words[2][1:])}
	for _, w := range words[3:] {
		n.Entries = append(n.Entries, entryIn(w))
	}
	return n
}

func editPlace(a *impl.Arena, id int64, words []string) {
	for int64(len(a.Nodes)) <= id {
		a.Nodes = append(a.Nodes, vacant())
	}
	a.Free = slices.DeleteFunc(a.Free, func(free int64) bool { return free == id })
	if words[0] == "free" {
		*a = afterFree(*a, id)
		return
	}
	a.Nodes[id] = nodeIn(words)
}

func editLine(t *impl.Tree, words []string) {
	switch words[0] {
	case "dims":
		t.Arena.Dims = numberIn(words[1])
	case "style":
		t.Style = numberIn(words[1])
	case "counter":
		t.Counter = numberIn(words[1])
	case "root":
		place, nsn, _ := strings.Cut(words[1], ".")
		t.Root, t.RootNsn = numberIn(place), numberIn(nsn)
	case "retired":
		t.Arena.Retired = nil
		for _, w := range words[1:] {
			place, watch, _ := strings.Cut(w, ":")
			t.Arena.Retired = append(t.Arena.Retired, retiredAt(numberIn(place), numbersIn(watch)...))
		}
	default:
		editPlace(&t.Arena, numberIn(words[0]), words[1:])
	}
}

// edited is a copy of the tree of which these lines, and nothing else, are told
// anew.
func edited(t impl.Tree, lines string) impl.Tree {
	t = cloneTree(t)
	for line := range strings.Lines(lines) {
		if words := strings.Fields(line); len(words) > 0 {
			editLine(&t, words)
		}
	}
	return t
}

func treeIn(lines string) impl.Tree {
	return edited(impl.Tree{}, lines)
}

func wordOf(list []int64) string {
	return strings.ReplaceAll(strings.Trim(fmt.Sprint(list), "[]"), " ", ",")
}

func lineOf(a impl.Arena, id int64) string {
	if isFree(a, id) {
		return fmt.Sprintf("%d free\n", id)
	}
	n := a.Nodes[id]
	line := fmt.Sprintf("%d L%d n%d r%d", id, n.Level, n.Nsn, n.Right)
	for _, e := range n.Entries {
		line += fmt.Sprintf(" %d.%d=%s/%s", e.Ref, e.Nsn, wordOf(e.Rect.Low), wordOf(e.Rect.High))
	}
	return line + "\n"
}

// told writes a tree in lines.
func told(t impl.Tree) string {
	text := fmt.Sprintf("dims %d\nstyle %d\nroot %d.%d\ncounter %d\n", t.Arena.Dims, t.Style, t.Root, t.RootNsn, t.Counter)
	for id := range t.Arena.Nodes {
		text += lineOf(t.Arena, int64(id))
	}
	text += "retired"
	for _, r := range t.Arena.Retired {
		text += fmt.Sprintf(" %d:%s", r.Id, wordOf(r.Watch))
	}
	return text + "\n"
}
