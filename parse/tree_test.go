package parse_test

import (
	"math"
	"math/rand"
	"slices"
	"strings"
	"testing"

	"shipwright/api"
	"shipwright/lex"
	"shipwright/parse"
)

// copied is a tree that shares nothing with x.
func copied(x api.Tree) api.Tree {
	nodes := slices.Clone(x.Nodes)
	for i := range nodes {
		nodes[i].Kids = slices.Clone(nodes[i].Kids)
	}
	return api.Tree{Nodes: nodes}
}

// changed is a copy of a tree, a node of it changed.
func changed(x api.Tree, i int, change func(n *api.Node)) api.Tree {
	y := copied(x)
	change(&y.Nodes[i])
	return y
}

// trees are the trees of the files.
func trees(t *testing.T) []api.Tree {
	t.Helper()
	var list []api.Tree
	for _, s := range files {
		list = append(list, mustTree(t, s))
	}
	return list
}

// rightTree and noTree are nodes of which that is said by hand.
func rightTree(t *testing.T, x api.Tree) {
	t.Helper()
	if checkTree(t, x) != api.OK {
		t.Errorf("Check(%v): not OK", x)
	}
}

func noTree(t *testing.T, x api.Tree) {
	t.Helper()
	if checkTree(t, x) != api.ErrTree {
		t.Errorf("Check(%v): not ErrTree", x)
	}
	if n := parse.Depth(x); n != 0 {
		t.Errorf("Depth(%v): %d", x, n)
	}
	if l, err := parse.Tokens(x); len(l) != 0 || err != api.ErrTree {
		t.Errorf("Tokens(%v): %v, error %d", x, l, err)
	}
}

// P11.3: Kept.
func TestKept(t *testing.T) {
	for _, w := range kept {
		if !parse.Kept(w) {
			t.Errorf("Kept(%s): false", w)
		}
		for _, s := range []string{w + "s", "a" + w, strings.ToUpper(w), w[1:], w[:len(w)-1], w + " ", " " + w, w + "\n", w + "\x00", w + w} {
			if parse.Kept(s) {
				t.Errorf("Kept(%q): true", s)
			}
		}
	}
	for _, s := range []string{"", "a", "x", "_", "0", "len", "println", "main", "switch", "go", "range", "interface", "map", "break", "continue", "nil", "string1", "\x80", ";", "(", "byte", "error"} {
		if parse.Kept(s) {
			t.Errorf("Kept(%q): true", s)
		}
	}
}

// P11.3: nodes of which one thing is changed.
func TestOneChange(t *testing.T) {
	texts := append([]string{"", "a", "x9", "1", "-1", ";", ":", "(", "a b", "\n", "\t", "\x7f", "\x80", "\u00e9", "a\n", "_", "if x", "a.b", `"`, `\`, "[", "=", ":=", ",", "."}, kept...)
	for _, row := range signRows {
		texts = append(texts, row...)
	}
	texts = append(texts, "!", strings.Repeat("a", 24), strings.Repeat("a", 25), strings.Repeat("a", 4094), strings.Repeat("a", 4095), strings.Repeat("\n", 2047), strings.Repeat("\n", 2048))
	right, wrong := 0, 0
	count := func(x api.Tree) {
		t.Helper()
		if checkTree(t, x) == api.OK {
			right++
		} else {
			wrong++
		}
	}
	for _, x := range trees(t) {
		rightTree(t, x)
		for i := range x.Nodes {
			for kind := -1; kind <= 29; kind++ {
				count(changed(x, i, func(n *api.Node) { n.Kind = kind }))
			}
			for _, kind := range []int{math.MinInt, 256 + 23, 1<<32 + 23, math.MaxInt} {
				noTree(t, changed(x, i, func(n *api.Node) { n.Kind = kind }))
			}
			for _, s := range texts {
				count(changed(x, i, func(n *api.Node) { n.Text = s }))
			}
			for _, num := range []int64{0, 1, -1, 7, math.MaxInt64, math.MinInt64} {
				count(changed(x, i, func(n *api.Node) { n.Num = num }))
			}
		}
	}
	if right < 1000 || wrong < 10000 {
		t.Errorf("%d right, %d wrong", right, wrong)
	}
}

// P11.3: nodes whose Kids are others: a kid of two nodes, of none, itself, out of order, beyond the nodes.
func TestKidsChanged(t *testing.T) {
	for _, x := range trees(t) {
		for i := range x.Nodes {
			kids := x.Nodes[i].Kids
			for k := -1; k <= len(x.Nodes)+1; k++ {
				for j := range len(kids) + 1 {
					noTree(t, changed(x, i, func(n *api.Node) { n.Kids = slices.Insert(n.Kids, j, k) }))
				}
				for j := range kids {
					if kids[j] != k {
						noTree(t, changed(x, i, func(n *api.Node) { n.Kids[j] = k }))
					}
				}
			}
			for j := range kids {
				noTree(t, changed(x, i, func(n *api.Node) { n.Kids = slices.Delete(n.Kids, j, j+1) }))
				if j > 0 {
					noTree(t, changed(x, i, func(n *api.Node) { n.Kids[j], n.Kids[j-1] = n.Kids[j-1], n.Kids[j] }))
				}
			}
			for _, k := range []int{math.MinInt, math.MaxInt, 1 << 32} {
				noTree(t, changed(x, i, func(n *api.Node) { n.Kids = append(n.Kids, k) }))
			}
			// Two nodes change places, and those who have them as kids know it: it is no preorder any more.
			for j := range i {
				if i == j || j == 0 {
					continue
				}
				y := copied(x)
				y.Nodes[i], y.Nodes[j] = y.Nodes[j], y.Nodes[i]
				for n := range y.Nodes {
					for m, k := range y.Nodes[n].Kids {
						switch k {
						case i:
							y.Nodes[n].Kids[m] = j
						case j:
							y.Nodes[n].Kids[m] = i
						}
					}
				}
				if !wantSame(x, y) {
					checkTree(t, y)
				}
			}
			// A node is left out, or doubled, and nobody knows it.
			y := copied(x)
			y.Nodes = slices.Delete(y.Nodes, i, i+1)
			checkTree(t, y)
			y = copied(x)
			y.Nodes = slices.Insert(y.Nodes, i, x.Nodes[i])
			noTree(t, y)
		}
		y := copied(x)
		y.Nodes = append(y.Nodes, api.Node{Kind: api.NodeImport, Text: "b"})
		noTree(t, y)
		y.Nodes = append(y.Nodes, x.Nodes...)
		noTree(t, y)
	}
	noTree(t, api.Tree{})
	noTree(t, api.Tree{Nodes: []api.Node{}})
	noTree(t, api.Tree{Nodes: []api.Node{{}}})
	noTree(t, api.Tree{Nodes: []api.Node{{Kind: api.NodeFile, Text: "a", Kids: []int{0}}}})
	noTree(t, api.Tree{Nodes: []api.Node{{Kind: api.NodeFile, Text: "a", Kids: []int{1}}}})
	noTree(t, api.Tree{Nodes: []api.Node{{Kind: api.NodeFile, Text: "a", Kids: []int{-1}}}})
	rightTree(t, api.Tree{Nodes: []api.Node{{Kind: api.NodeFile, Text: "a", Kids: []int{}}}})
}

// P11.3: places are not asked.
func TestPlacesNotAsked(t *testing.T) {
	for _, x := range trees(t) {
		depth := parse.Depth(x)
		l, err := parse.Tokens(x)
		for _, n := range []int{0, -1, math.MinInt, math.MaxInt} {
			y := copied(x)
			for i := range y.Nodes {
				y.Nodes[i].At, y.Nodes[i].From, y.Nodes[i].To = n, n, n
			}
			rightTree(t, y)
			again, againErr := parse.Tokens(y)
			if parse.Depth(y) != depth || !slices.Equal(again, l) || againErr != err || !parse.Same(x, y) {
				t.Errorf("%v: places are asked", y)
			}
		}
	}
}

// leaf, and branch, are nodes with their kids.
func branch(kind int, text string, kids ...*knot) *knot {
	return &knot{Node: api.Node{Kind: kind, Text: text}, kids: kids}
}

func name(s string) *knot { return branch(api.NodeName, s) }

func number(n int64) *knot { return &knot{Node: api.Node{Kind: api.NodeInt, Num: n}} }

// holds is a file in which an expression is a variable's, or a declaration stands.
func holds(k *knot) api.Tree {
	if k.Kind >= api.NodeInt {
		k = branch(api.NodeVar, "v", branch(api.NodeBasic, "int"), k)
	}
	return lay(branch(api.NodeFile, "p", k))
}

// P11.3: what words, numbers and texts may be.
func TestWordsOfTrees(t *testing.T) {
	for _, s := range []string{"a", "_", "A9", "len", "iff", "Int", strings.Repeat("a", 24)} {
		rightTree(t, holds(name(s)))
		rightTree(t, lay(branch(api.NodeFile, s)))
		rightTree(t, holds(branch(api.NodeDot, s, name(s))))
		rightTree(t, holds(branch(api.NodeStruct, s, branch(api.NodeField, s, branch(api.NodeNamed, s)))))
		rightTree(t, holds(branch(api.NodeVar, s, branch(api.NodeFar, s, name(s)))))
		rightTree(t, holds(branch(api.NodeFunc, s, branch(api.NodeRecv, s, branch(api.NodeNamed, s)), branch(api.NodeParam, s, branch(api.NodeBasic, "bool")), branch(api.NodeBlock, "", branch(api.NodeShort, s, name(s))))))
	}
	for _, s := range append([]string{"", "1", "a b", "a.b", "a;", "a\n", " a", "+", `"a"`, "\u00e9", strings.Repeat("a", 25), strings.Repeat("a", 5000)}, kept...) {
		noTree(t, holds(name(s)))
		noTree(t, lay(branch(api.NodeFile, s)))
		noTree(t, holds(branch(api.NodeDot, s, name("a"))))
		noTree(t, holds(branch(api.NodeDot, "a", name(s))))
		noTree(t, holds(branch(api.NodeConst, s, number(1))))
		noTree(t, holds(branch(api.NodeVar, s, branch(api.NodeBasic, "int"))))
		noTree(t, holds(branch(api.NodeStruct, s)))
		noTree(t, holds(branch(api.NodeStruct, "a", branch(api.NodeField, s, branch(api.NodeNamed, "a")))))
		noTree(t, holds(branch(api.NodeVar, "a", branch(api.NodeNamed, s))))
		noTree(t, holds(branch(api.NodeVar, "a", branch(api.NodeFar, s, name("a")))))
		noTree(t, holds(branch(api.NodeVar, "a", branch(api.NodeFar, "a", name(s)))))
		noTree(t, holds(branch(api.NodeFunc, s, branch(api.NodeBlock, ""))))
		noTree(t, holds(branch(api.NodeFunc, "a", branch(api.NodeRecv, s, branch(api.NodeNamed, "a")), branch(api.NodeBlock, ""))))
		noTree(t, holds(branch(api.NodeFunc, "a", branch(api.NodeRecv, "a", branch(api.NodeNamed, s)), branch(api.NodeBlock, ""))))
		noTree(t, holds(branch(api.NodeFunc, "a", branch(api.NodeParam, s, branch(api.NodeNamed, "a")), branch(api.NodeBlock, ""))))
		noTree(t, holds(branch(api.NodeFunc, "a", branch(api.NodeBlock, "", branch(api.NodeShort, s, name("a"))))))
	}
	for _, n := range []int64{0, 1, 9, 10, math.MaxInt64} {
		rightTree(t, holds(number(n)))
		rightTree(t, holds(branch(api.NodeConst, "c", number(n))))
		rightTree(t, holds(branch(api.NodeConst, "c", branch(api.NodeUnary, "-", number(n)))))
		noTree(t, holds(branch(api.NodeConst, "c", branch(api.NodeUnary, "!", number(n)))))
		noTree(t, holds(branch(api.NodeConst, "c", branch(api.NodeUnary, "-", branch(api.NodeUnary, "-", number(n))))))
		noTree(t, holds(branch(api.NodeConst, "c", branch(api.NodeBinary, "-", number(n), number(n)))))
	}
	for _, n := range []int64{-1, -10, math.MinInt64} {
		noTree(t, holds(number(n)))
		noTree(t, holds(branch(api.NodeConst, "c", number(n))))
	}
	noTree(t, holds(branch(api.NodeInt, "1")))
	noTree(t, holds(branch(api.NodeConst, "c", name("a"))))
	noTree(t, holds(branch(api.NodeConst, "c", branch(api.NodeUnary, "-", name("a")))))
	noTree(t, holds(branch(api.NodeConst, "c", branch(api.NodeUnary, "-", branch(api.NodeText, "a")))))
	for c := range 256 {
		s := string([]byte{byte(c)})
		for _, s := range []string{s, "a" + s, s + "b"} {
			x, y := holds(branch(api.NodeText, s)), holds(branch(api.NodeImport, s))
			if c == 10 || c >= 32 && c <= 126 {
				rightTree(t, x)
				rightTree(t, y)
			} else {
				noTree(t, x)
				noTree(t, y)
			}
		}
	}
	// The token of a text has at most MaxText bytes, with its quotes.
	for _, kind := range []int{api.NodeText, api.NodeImport} {
		rightTree(t, holds(branch(kind, "")))
		rightTree(t, holds(branch(kind, strings.Repeat("a", 4094))))
		noTree(t, holds(branch(kind, strings.Repeat("a", 4095))))
		rightTree(t, holds(branch(kind, strings.Repeat(`"`, 2047))))
		noTree(t, holds(branch(kind, strings.Repeat(`"`, 2048))))
		noTree(t, holds(branch(kind, strings.Repeat("a", 1<<20))))
	}
}

// P11.3: each Kind beneath each Kind, one and several.
func TestEachKid(t *testing.T) {
	samples := []*knot{
		branch(api.NodeFile, "f"), branch(api.NodeImport, "i"), branch(api.NodeConst, "c", number(1)), branch(api.NodeVar, "v", branch(api.NodeBasic, "int")),
		branch(api.NodeStruct, "s"), branch(api.NodeField, "f", branch(api.NodeNamed, "t")), branch(api.NodeFunc, "g", branch(api.NodeBlock, "")),
		branch(api.NodeRecv, "r", branch(api.NodeNamed, "t")), branch(api.NodeParam, "p", branch(api.NodeNamed, "t")), branch(api.NodeBasic, "bool"),
		branch(api.NodeNamed, "n"), branch(api.NodeFar, "n", name("a")), branch(api.NodeBlock, ""), branch(api.NodeIf, "", name("a"), branch(api.NodeBlock, "")),
		branch(api.NodeFor, "", name("a"), branch(api.NodeBlock, "")), branch(api.NodeReturn, ""), branch(api.NodeShort, "x", name("a")),
		branch(api.NodeAssign, "", name("a"), name("b")), branch(api.NodeExpr, "", name("a")), number(7), branch(api.NodeText, "q"), branch(api.NodeBool, "true"),
		name("n"), branch(api.NodeDot, "d", name("a")), branch(api.NodeCall, "", name("a")), branch(api.NodeUnary, "-", name("a")), branch(api.NodeBinary, "+", name("a"), name("b")),
	}
	// Where a node of that Kind stands in a file.
	within := func(k *knot) *knot {
		file := func(k *knot) *knot { return branch(api.NodeFile, "p", k) }
		block := func(k *knot) *knot { return file(branch(api.NodeFunc, "f", branch(api.NodeBlock, "", k))) }
		switch kind := k.Kind; {
		case kind == api.NodeFile:
			return k
		case slices.Contains([]int{api.NodeImport, api.NodeConst, api.NodeVar, api.NodeStruct, api.NodeFunc}, kind):
			return file(k)
		case kind == api.NodeField:
			return file(branch(api.NodeStruct, "s", k))
		case kind == api.NodeRecv || kind == api.NodeParam || kind == api.NodeBlock:
			if kind == api.NodeBlock {
				return file(branch(api.NodeFunc, "f", k))
			}
			return file(branch(api.NodeFunc, "f", k, branch(api.NodeBlock, "")))
		case kind == api.NodeBasic || kind == api.NodeNamed || kind == api.NodeFar:
			return file(branch(api.NodeVar, "v", k))
		case kind >= api.NodeInt:
			return file(branch(api.NodeVar, "v", branch(api.NodeBasic, "int"), k))
		}
		return block(k)
	}
	right := map[int]int{}
	for kind := 1; kind <= len(samples); kind++ {
		node := samples[kind-1].Node
		try := func(kids ...*knot) {
			t.Helper()
			if checkTree(t, lay(within(&knot{Node: node, kids: kids}))) == api.OK {
				right[kind]++
			}
		}
		try()
		for _, a := range samples {
			try(a)
			for _, b := range samples {
				try(a, b)
				switch block := samples[api.NodeBlock-1]; kind {
				case api.NodeFunc, api.NodeIf:
					try(a, b, block)
					try(name("a"), a, b)
					try(samples[api.NodeParam-1], a, b, block)
				case api.NodeFile, api.NodeBlock, api.NodeStruct, api.NodeCall:
					try(a, b, a)
				default:
					try(a, b, name("a"))
				}
			}
		}
	}
	for kind := 1; kind <= len(samples); kind++ {
		if right[kind] == 0 {
			t.Errorf("Kind %d: nothing is right", kind)
		}
	}
	// Each Kind as the node 0.
	for _, k := range samples {
		if checkTree(t, lay(k)); (parse.Check(lay(k)) == api.OK) != (k.Kind == api.NodeFile) {
			t.Errorf("Kind %d as the node 0", k.Kind)
		}
	}
}

// grow is an expression by chance.
func grow(r *rand.Rand, left int) *knot {
	signs := slices.Concat(signRows...)
	leaves := []*knot{name("a"), name("b1"), number(0), number(r.Int63()), branch(api.NodeText, "\"\\\n"), branch(api.NodeText, ""), branch(api.NodeBool, "true"), branch(api.NodeBool, "false")}
	if left <= 0 || r.Intn(8) == 0 {
		return leaves[r.Intn(len(leaves))]
	}
	switch r.Intn(8) {
	case 0:
		return branch(api.NodeDot, "d", grow(r, left-1))
	case 1:
		k := branch(api.NodeCall, "", grow(r, left-1))
		for range r.Intn(4) {
			k.kids = append(k.kids, grow(r, left-2))
		}
		return k
	case 2, 3:
		return branch(api.NodeUnary, []string{"-", "!"}[r.Intn(2)], grow(r, left-1))
	}
	return branch(api.NodeBinary, signs[r.Intn(len(signs))], grow(r, left-1), grow(r, left-1))
}

// P11.4, P11.5: expressions by chance, and the brackets that they need.
func TestGrown(t *testing.T) {
	r := rand.New(rand.NewSource(2))
	for range 3000 {
		x := holds(grow(r, r.Intn(6)))
		rightTree(t, x)
		l, err := parse.Tokens(x)
		if err != api.OK {
			t.Fatal(err)
		}
		without(t, x, l)
	}
	// Deep ones, among them too deep ones.
	signs := slices.Concat(signRows...)
	for range 500 {
		k := name("a")
		for range 15 + r.Intn(8) {
			sign, other := signs[r.Intn(len(signs))], grow(r, r.Intn(3))
			k = []*knot{
				branch(api.NodeDot, "d", k),
				branch(api.NodeCall, "", k, other),
				branch(api.NodeCall, "", other, k),
				branch(api.NodeUnary, "-", k),
				branch(api.NodeBinary, sign, k, other),
				branch(api.NodeBinary, sign, other, k),
			}[r.Intn(6)]
		}
		checkTree(t, holds(k))
	}
}

// without is P11.4: without any two brackets that belong together it would be another tree, or none.
func without(t *testing.T, x api.Tree, l []api.Token) {
	t.Helper()
	var open []int
	for i, one := range l {
		switch one.Text {
		case "(":
			open = append(open, i)
		case ")":
			j := open[len(open)-1]
			open = open[:len(open)-1]
			list := slices.Concat(l[:j], l[j+1:i], l[i+1:])
			if again, spot := parse.Parse(place(list, 1)); spot == (api.Spot{}) && wantSame(again, x) {
				t.Fatalf("%s: the brackets %d and %d are not needed", shown(l), j, i)
			}
		}
	}
}

// P11.3 to P11.5: trees of which parts are put in the place of others, doubled or left out, the nodes numbered anew.
func TestGrafts(t *testing.T) {
	r := rand.New(rand.NewSource(3))
	list := trees(t)
	for range 60 {
		x, spot := parse.Parse(chance(r))
		if spot == (api.Spot{}) {
			list = append(list, x)
		}
	}
	// all is the nodes beneath a node, and it.
	var all func(k *knot) []*knot
	all = func(k *knot) []*knot {
		nodes := []*knot{k}
		for _, one := range k.kids {
			nodes = append(nodes, all(one)...)
		}
		return nodes
	}
	right := 0
	for range 20000 {
		x, y := tie(list[r.Intn(len(list))]), tie(list[r.Intn(len(list))])
		nodes, others := all(x), all(y)
		k, other := nodes[r.Intn(len(nodes))], others[r.Intn(len(others))]
		if len(k.kids) > 0 {
			i := r.Intn(len(k.kids))
			switch r.Intn(4) {
			case 0:
				k.kids = slices.Concat(k.kids[:i], k.kids[i+1:])
			case 1:
				k.kids = slices.Concat(k.kids[:i], []*knot{other}, k.kids[i:])
			case 2:
				k.kids = slices.Concat(k.kids[:i], []*knot{other}, k.kids[i+1:])
			default:
				j := r.Intn(len(k.kids))
				k.kids[i], k.kids[j] = k.kids[j], k.kids[i]
			}
		} else {
			k.kids = []*knot{other}
		}
		if checkTree(t, lay(x)) == api.OK {
			right++
		}
	}
	if right < 1000 || right > 19000 {
		t.Errorf("%d of 20000 are right", right)
	}
}

// P11.3: MaxNodes, and one more.
func TestManyNodes(t *testing.T) {
	imports := func(n int) api.Tree {
		f := branch(api.NodeFile, "p")
		for range n {
			f.kids = append(f.kids, branch(api.NodeImport, "i"))
		}
		return lay(f)
	}
	rightTree(t, imports(2047))
	noTree(t, imports(2048))
	noTree(t, imports(1<<16))
	if n := parse.Depth(imports(2047)); n != 2 {
		t.Errorf("Depth: %d", n)
	}
	if l, err := parse.Tokens(imports(2047)); len(l) != 0 || err != api.ErrLong {
		t.Errorf("Tokens: %d, error %d", len(l), err)
	}
	// Many nodes in one another are none, either.
	for _, n := range []int{25, 2048, 1 << 16} {
		var x api.Tree
		for i := range n {
			x.Nodes = append(x.Nodes, api.Node{Kind: api.NodeBlock, Kids: []int{i + 1}})
		}
		x.Nodes[n-1].Kids = nil
		if parse.Check(x) != api.ErrTree || parse.Depth(x) != 0 {
			t.Errorf("%d nodes in one another", n)
		}
	}
}

// P11.3: how deep trees are, up to MaxDepth, and one more.
func TestDepth(t *testing.T) {
	for s, want := range map[string]int{
		"package a":                                       1,
		"package a; import \"b\"":                         2,
		"package a; const c = 1":                          3,
		"package a; const c = -1":                         4,
		"package a; var x int":                            3,
		"package a; var x b.t":                            4,
		"package a; type t struct { }":                    2,
		"package a; type t struct { x int }":              4,
		"package a; func f() { }":                         3,
		"package a; func f() { return }":                  4,
		"package a; func f() { return a.b }; import_ int": 0,
		"package a; func f() { return a.b }; var x int":   6,
		"package a; var x int; func f() { a.b.c() }":      8,
	} {
		x, _ := parse.Text(s)
		if n := parse.Depth(x); n != want {
			t.Errorf("Depth(%q): %d, want %d", s, n, want)
		}
	}
	for n := range 40 {
		k := name("a")
		for range n {
			k = branch(api.NodeUnary, "-", k)
		}
		x := holds(k)
		if n+3 > 24 {
			noTree(t, x)
			continue
		}
		rightTree(t, x)
		if got := parse.Depth(x); got != n+3 {
			t.Errorf("%d deep, want %d", got, n+3)
		}
		// It counts how deep the deepest one is, wherever it stands.
		x = lay(branch(api.NodeFile, "p", branch(api.NodeVar, "v", branch(api.NodeBasic, "int"), k), branch(api.NodeStruct, "s")))
		rightTree(t, x)
		if got := parse.Depth(x); got != n+3 {
			t.Errorf("%d deep, want %d", got, n+3)
		}
	}
}

// P11.3: Same.
func TestSame(t *testing.T) {
	list := trees(t)
	for i, x := range list {
		for j, y := range list {
			if parse.Same(x, y) != (i == j) {
				t.Errorf("Same(%v, %v): %v", x, y, i != j)
			}
		}
		differ := func(y api.Tree) {
			t.Helper()
			if parse.Same(x, y) || parse.Same(y, x) {
				t.Errorf("Same(%v, %v)", x, y)
			}
		}
		for k := range x.Nodes {
			differ(changed(x, k, func(n *api.Node) { n.Kind++ }))
			differ(changed(x, k, func(n *api.Node) { n.Text += "a" }))
			differ(changed(x, k, func(n *api.Node) { n.Num++ }))
			differ(changed(x, k, func(n *api.Node) { n.Kids = append(n.Kids, 0) }))
			if len(x.Nodes[k].Kids) > 0 {
				differ(changed(x, k, func(n *api.Node) { n.Kids[0]++ }))
				differ(changed(x, k, func(n *api.Node) { n.Kids[len(n.Kids)-1]-- }))
				differ(changed(x, k, func(n *api.Node) { n.Kids = n.Kids[1:] }))
				differ(changed(x, k, func(n *api.Node) { n.Kids = nil }))
			}
			differ(api.Tree{Nodes: x.Nodes[:k]})
			differ(api.Tree{Nodes: slices.Concat(x.Nodes[:k+1], x.Nodes[k:])})
			for _, y := range []api.Tree{
				changed(x, k, func(n *api.Node) { n.At++ }),
				changed(x, k, func(n *api.Node) { n.From-- }),
				changed(x, k, func(n *api.Node) { n.To = -1 }),
				changed(x, k, func(n *api.Node) { n.Kids = append([]int{}, n.Kids...) }),
			} {
				if !parse.Same(x, y) || !parse.Same(y, x) {
					t.Errorf("Same(%v, %v): false", x, y)
				}
			}
		}
	}
	// It asks of no tree.
	if !parse.Same(api.Tree{}, api.Tree{Nodes: []api.Node{}}) || parse.Same(api.Tree{}, api.Tree{Nodes: []api.Node{{}}}) {
		t.Error("no nodes")
	}
	odd := api.Tree{Nodes: []api.Node{{Kind: -5, Text: "\x00", Num: -1, Kids: []int{-1, 99}}}}
	if !parse.Same(odd, copied(odd)) || !parse.Same(api.Tree{Nodes: []api.Node{{Kids: []int{}}}}, api.Tree{Nodes: []api.Node{{}}}) {
		t.Error("what is no tree")
	}
}

// P11.4: the tokens of each Kind of node.
func TestTokens(t *testing.T) {
	for s, want := range map[string]string{
		"package a": `package a ;`,
		"package a\nimport \"b\"\nimport \"\\\"\\n\"":           `package a ; import "b" ; import "\"\n" ;`,
		"package a\nconst c = 1\nconst d = -2\n":                `package a ; const c = 1 ; const d = - 2 ;`,
		"package a\nconst c = \"\"; const d = false":            `package a ; const c = "" ; const d = false ;`,
		"package a; var x int\nvar y b.c = (1)":                 `package a ; var x int ; var y b . c = 1 ;`,
		"package a; type t struct { }":                          `package a ; type t struct { } ;`,
		"package a; type t struct { x int }":                    `package a ; type t struct { x int ; } ;`,
		"package a; type t struct { x int; y t\n}":              `package a ; type t struct { x int ; y t ; } ;`,
		"package a; func f() { }":                               `package a ; func f ( ) { } ;`,
		"package a; func (s t) f(x int, y b.c) bool { x; y; }":  `package a ; func ( s t ) f ( x int , y b . c ) bool { x ; y ; } ;`,
		"package a; func f() { if a { } }":                      `package a ; func f ( ) { if a { } ; } ;`,
		"package a; func f() { if a { b } else { c } }":         `package a ; func f ( ) { if a { b ; } else { c ; } ; } ;`,
		"package a; func f() { if a { } else if b { }; c }":     `package a ; func f ( ) { if a { } else if b { } ; c ; } ;`,
		"package a; func f() { for a { { } } }":                 `package a ; func f ( ) { for a { { } ; } ; } ;`,
		"package a; func f() { return }":                        `package a ; func f ( ) { return ; } ;`,
		"package a; func f() { return (a) }":                    `package a ; func f ( ) { return a ; } ;`,
		"package a; func f() { x := a; (x) = b; f(); var y t }": `package a ; func f ( ) { x := a ; x = b ; f ( ) ; var y t ; } ;`,
		"package a; var x int = ((a.b(c, (d), 1)))(true).e":     `package a ; var x int = a . b ( c , d , 1 ) ( true ) . e ;`,
	} {
		l, err := parse.Tokens(mustTree(t, s))
		if !slices.Equal(l, tokens(strings.Fields(want))) || err != api.OK {
			t.Errorf("Tokens(%q): %s, error %d, want %s", s, shown(l), err, want)
		}
	}
	for _, x := range trees(t) {
		l, err := parse.Tokens(x)
		if err != api.OK {
			t.Fatal(err)
		}
		without(t, x, l)
		if lex.Check(l) != api.OK {
			t.Errorf("%s may not be", shown(l))
		}
		for _, one := range l {
			if one.At != 0 || one.Kind == api.TokEnd && one.Text != ";" {
				t.Errorf("%v", one)
			}
		}
	}
}

// P11.4: brackets stand just where the chapter has them.
func TestBrackets(t *testing.T) {
	brackets := func(s, want string) {
		t.Helper()
		x := mustTree(t, "package p; var v int = "+s)
		l, err := parse.Tokens(x)
		if got := shown(l); err != api.OK || got != "package p ; var v int = "+want+" ;" {
			t.Errorf("%s: %s, error %d, want %s", s, got, err, want)
		}
	}
	for i, row := range signRows {
		for j, other := range signRows {
			for _, f := range row {
				for _, g := range other {
					// The first kid of g is of f, and then the second one.
					first, second := "a "+f+" b "+g+" c", "a "+g+" ( b "+f+" c )"
					if i < j || i == j && i == 2 {
						first = "( a " + f + " b ) " + g + " c"
					}
					if i > j {
						second = "a " + g + " b " + f + " c"
					}
					brackets("((a "+f+" b) "+g+" c)", first)
					brackets("(a "+g+" (b "+f+" c))", second)
				}
			}
		}
		for _, f := range row {
			brackets("(-(a "+f+" b))", "- ( a "+f+" b )")
			brackets("(!(a "+f+" b))", "! ( a "+f+" b )")
			brackets("(-a) "+f+" (-b)", "- a "+f+" - b")
			brackets("(a "+f+" b).c", "( a "+f+" b ) . c")
			brackets("(a "+f+" b)(c)", "( a "+f+" b ) ( c )")
			brackets("c((a "+f+" b), (d "+f+" e))", "c ( a "+f+" b , d "+f+" e )")
			brackets("(a.c) "+f+" (b())", "a . c "+f+" b ( )")
			brackets("(((a) "+f+" (b)))", "a "+f+" b")
		}
	}
	brackets("(-(-a))", "- - a")
	brackets("(!(a.b))", "! a . b")
	brackets("(-(a(b)))", "- a ( b )")
	brackets("(-a).b", "( - a ) . b")
	brackets("(!a)(b)", "( ! a ) ( b )")
	brackets("(((-a).b).c)(d)", "( - a ) . b . c ( d )")
	brackets("((a.b)(c)).d", "a . b ( c ) . d")
	brackets("a((-b), (!c))", "a ( - b , ! c )")
	brackets("(1)(2)", "1 ( 2 )")
	brackets("(\"a\").b", "\"a\" . b")
	brackets("(true)", "true")
	brackets("-(1)", "- 1")
}

// P11.4: MaxTokens, and one more.
func TestManyTokens(t *testing.T) {
	file := func(imports, vars int) api.Tree {
		f := branch(api.NodeFile, "p")
		for range imports {
			f.kids = append(f.kids, branch(api.NodeImport, "i"))
		}
		for range vars {
			f.kids = append(f.kids, branch(api.NodeVar, "v", branch(api.NodeBasic, "int")))
		}
		return lay(f)
	}
	for _, q := range []struct{ imports, vars, tokens int }{{340, 0, 1023}, {339, 1, 1024}, {338, 2, 1025}, {341, 0, 1026}, {0, 255, 1023}, {0, 256, 1027}} {
		x := file(q.imports, q.vars)
		if q.tokens != 3+3*q.imports+4*q.vars {
			t.Fatal(q)
		}
		if err := parse.Check(x); err != api.OK {
			t.Errorf("%v: Check: error %d", q, err)
		}
		l, err := parse.Tokens(x)
		if q.tokens > 1024 {
			if len(l) != 0 || err != api.ErrLong {
				t.Errorf("%v: %d tokens, error %d", q, len(l), err)
			}
			continue
		}
		if len(l) != q.tokens || err != api.OK {
			t.Errorf("%v: %d tokens, error %d", q, len(l), err)
		}
		if again, spot := parse.Parse(place(l, 1)); spot != (api.Spot{}) || !parse.Same(again, x) {
			t.Errorf("%v: %v", q, spot)
		}
	}
	// What is no tree is told ahead of it.
	x := file(341, 0)
	x.Nodes[5].Text = "\t"
	if l, err := parse.Tokens(x); len(l) != 0 || err != api.ErrTree {
		t.Errorf("%d tokens, error %d", len(l), err)
	}
}

// R3: what is handed in is not changed, the room behind a list's end neither, and what is told is new memory.
func TestMemory(t *testing.T) {
	for _, s := range files {
		l := place(mustLex(t, s), 2)
		mark := api.Token{Kind: 9, Text: "mark", At: 9}
		room := append(slices.Clone(l), mark, mark)
		kept := slices.Clone(room)
		x, spot := parse.Parse(room[:len(l)])
		if spot != (api.Spot{}) || !slices.Equal(room, kept) {
			t.Fatalf("Parse(%s) changes what it is handed: %v", shown(l), spot)
		}
		before := copied(x)
		for i := range room {
			room[i] = mark
		}
		if !equal(x, before) {
			t.Errorf("Parse(%s) keeps what it is handed", shown(l))
		}
		again, _ := parse.Parse(l)
		// No two lists share memory, the room behind their ends neither.
		for i := range x.Nodes {
			kids := x.Nodes[i].Kids
			for j := range kids[:cap(kids)] {
				kids[:cap(kids)][j] = -7
			}
			for j := range x.Nodes {
				if j > i && !slices.Equal(x.Nodes[j].Kids, before.Nodes[j].Kids) {
					t.Fatalf("Parse(%s): the kids of %d and %d share memory", shown(l), i, j)
				}
			}
		}
		if third, _ := parse.Parse(l); !equal(again, before) || !equal(third, before) {
			t.Errorf("Parse(%s) hands out what it keeps", shown(l))
		}
		memoryOfTree(t, before)
	}
}

// memoryOfTree is R3 of Check, Depth, Tokens and Same.
func memoryOfTree(t *testing.T, x api.Tree) {
	t.Helper()
	y := copied(x)
	mark := api.Node{Kind: 5, Text: "mark", Kids: []int{1}}
	for i := range y.Nodes {
		y.Nodes[i].Kids = append(slices.Clone(y.Nodes[i].Kids), 77, 78)[:len(y.Nodes[i].Kids)]
	}
	room := append(slices.Clone(y.Nodes), mark, mark)
	y.Nodes = room[:len(x.Nodes)]
	l, err := parse.Tokens(y)
	parse.Check(y)
	parse.Depth(y)
	parse.Same(y, x)
	if err != api.OK || !equal(x, y) || !slices.Equal(room[len(room)-1].Kids, mark.Kids) || room[len(room)-2].Text != "mark" {
		t.Fatalf("%v is changed: %v", x, y)
	}
	for _, n := range y.Nodes {
		if rest := n.Kids[:len(n.Kids)+2][len(n.Kids):]; rest[0] != 77 || rest[1] != 78 {
			t.Fatalf("%v: the room behind is changed", n)
		}
	}
	before := slices.Clone(l)
	for i := range y.Nodes {
		y.Nodes[i] = mark
	}
	if !slices.Equal(l, before) {
		t.Errorf("Tokens(%v) keeps what it is handed", x)
	}
	for i := range l {
		l[i] = api.Token{}
	}
	if again, _ := parse.Tokens(x); !slices.Equal(again, before) {
		t.Errorf("Tokens(%v) hands out what it keeps", x)
	}
}
