package print_test

import (
	"slices"
	"strings"

	"shipwright/api"
	"shipwright/parse"
)

// What Print, Node, Form and Formed have to tell is said here anew, from the tree's tokens (chapter 11) alone: which of them begin a line, and between which of them a blank stands.

// starts are the words with which declarations and imports begin.
var starts = []string{"import", "const", "var", "type", "func"}

// keywords are words behind which no operand has ended.
var keywords = []string{"package", "import", "const", "var", "type", "struct", "func", "if", "else", "for", "return"}

// layout is the text of a tree's tokens.
func layout(l []api.Token) string {
	var b strings.Builder
	deep, imports := 0, 0
	fresh := true // a line begins
	for i, t := range l {
		switch {
		case t.Kind == api.TokEnd:
			b.WriteByte('\n')
			fresh = true
			continue
		case t.Text == "}":
			deep--
		}
		if fresh {
			if deep == 0 && slices.Contains(starts, t.Text) {
				if t.Text != "import" || imports == 0 {
					b.WriteByte('\n')
				}
				if t.Text == "import" {
					imports++
				}
			}
			b.WriteString(strings.Repeat("\t", deep))
			fresh = false
		} else if apart(l, i) {
			b.WriteByte(' ')
		}
		b.WriteString(t.Text)
		if t.Text == "{" {
			b.WriteByte('\n')
			deep++
			fresh = true
		}
	}
	return b.String()
}

// ended tells whether an operand, or a name, has ended with a token.
func ended(t api.Token) bool {
	switch t.Kind {
	case api.TokWord:
		return !slices.Contains(keywords, t.Text)
	case api.TokInt, api.TokText:
		return true
	}
	return t.Text == ")"
}

// apart tells whether a blank stands ahead of the token number i, which is not a line's first.
func apart(l []api.Token, i int) bool {
	last, next := l[i-1], l[i]
	switch {
	case last.Text == "(" || next.Text == ")" || next.Text == ",":
		return false
	case last.Text == "." || next.Text == ".":
		return false
	case last.Text == "!" || last.Text == "-" && !ended(l[i-2]):
		return false
	}
	return next.Text != "(" || !ended(last)
}

// wantPrint is what Print tells.
func wantPrint(x api.Tree) (string, api.Errno) {
	l, err := parse.Tokens(x)
	if err != api.OK {
		return "", err
	}
	s := layout(l)
	if len(s) > 4096 {
		return "", api.ErrLong
	}
	return s, api.OK
}

// firstExpr and the Kinds behind it are expressions; types are those from firstType to lastType.
const (
	firstType, lastType = 10, 12
	firstExpr, lastExpr = 20, 27
)

func isExpr(kind int) bool { return kind >= firstExpr && kind <= lastExpr }

func isType(kind int) bool { return kind >= firstType && kind <= lastType }

// wantNode is what Node tells. What it tells is cut out of the text of a file that has nothing but the node.
func wantNode(x api.Tree, i int) (string, api.Errno) {
	if _, err := parse.Tokens(x); err != api.OK {
		return "", err
	}
	if i < 0 || i >= len(x.Nodes) {
		return "", api.ErrArg
	}
	file := api.Node{Kind: api.NodeFile, Text: "a", Kids: []int{1}}
	held := api.Node{Kind: api.NodeVar, Text: "x"}
	ahead := "package a\n\nvar x "
	nodes := []api.Node{file, held}
	switch kind := x.Nodes[i].Kind; {
	case isType(kind):
		nodes[1].Kids = []int{2}
	case isExpr(kind):
		nodes[1].Kids = []int{2, 3}
		nodes = append(nodes, api.Node{Kind: api.NodeBasic, Text: "int"})
		ahead += "int = "
	default:
		return "", api.ErrArg
	}
	l, err := parse.Tokens(api.Tree{Nodes: graft(nodes, x, i)})
	if err != api.OK {
		panic("a node by itself is no tree")
	}
	s := layout(l)
	return s[len(ahead) : len(s)-1], api.OK
}

// graft puts the node number i of a tree, with all beneath it, behind nodes.
func graft(nodes []api.Node, x api.Tree, i int) []api.Node {
	by := len(nodes) - i
	last := i
	for j := i; j <= last; j++ {
		n := x.Nodes[j]
		n.Kids = slices.Clone(n.Kids)
		for k := range n.Kids {
			last = max(last, n.Kids[k])
			n.Kids[k] += by
		}
		nodes = append(nodes, n)
	}
	return nodes
}

// wantForm is what Form tells.
func wantForm(text string) (string, api.Spot) {
	x, spot := parse.Text(text)
	if spot.Err != api.OK {
		return "", spot
	}
	s, err := wantPrint(x)
	if err != api.OK {
		return "", api.Spot{Err: api.ErrLong}
	}
	return s, api.Spot{}
}

// wantFormed is what Formed tells.
func wantFormed(text string) bool {
	x, spot := parse.Text(text)
	if spot.Err != api.OK {
		return false
	}
	l, err := parse.Tokens(x)
	return err == api.OK && layout(l) == text
}
