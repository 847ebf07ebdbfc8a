package types_test

import (
	"fmt"
	"math/rand"
	"slices"
	"strings"
	"testing"

	"shipwright/api"
	"shipwright/lex"
	"shipwright/scope"
	"shipwright/types"
)

// thing is what a package by chance declares: of a method its struct, of a function what it takes and tells.
type thing struct {
	kind, pack, of int
	name           string
	typ            kindOf
	params         []kindOf
}

// kindOf is a type: its Kind, and of a struct its number.
type kindOf struct{ kind, of int }

var whole, truth, text = kindOf{kind: 1}, kindOf{kind: 2}, kindOf{kind: 3}

// local is a name of a function or a block.
type local struct {
	name string
	typ  kindOf
	deep int // of the block
}

// maker makes a repository by chance that is right, but for a few things that it gets wrong.
type maker struct {
	*rand.Rand
	wrongs  int // one in so many is wrong; 0: none
	packs   []string
	structs []thing
	fields  []thing
	things  []thing // functions, methods, constants, variables
	pack    int     // in which it stands
	locals  []local
	deep    int
	tells   kindOf
}

// pick is one of several.
func pick[T any](r *rand.Rand, list ...T) T { return list[r.Intn(len(list))] }

// errs tells whether something is to be wrong.
func (m *maker) errs() bool { return m.wrongs > 0 && m.Intn(m.wrongs) == 0 }

func (m *maker) last(pack int) string { return scope.Name(m.packs[pack]) }

// seen tells whether a name of a package can be said from where it stands.
func (m *maker) seen(pack int, name string) bool {
	if pack == m.pack {
		return !m.hidden(name)
	}
	return name[0] <= 'Z' && !m.hidden(m.last(pack))
}

// hidden tells whether a local has that name.
func (m *maker) hidden(name string) bool {
	return slices.ContainsFunc(m.locals, func(l local) bool { return l.name == name })
}

// said is a name of a package, as it is said from where it stands.
func (m *maker) said(pack int, name string) string {
	if pack == m.pack {
		return name
	}
	return m.last(pack) + "." + name
}

// word is a type, as it is said from where it stands.
func (m *maker) word(k kindOf) string {
	if k.kind != 4 {
		return [...]string{"", "int", "bool", "string"}[k.kind]
	}
	return m.said(m.structs[k.of].pack, m.structs[k.of].name)
}

// any is a type that can be said from where it stands.
func (m *maker) any() kindOf {
	k := kindOf{4, m.Intn(len(m.structs))}
	if s := m.structs[k.of]; m.Intn(2) == 0 || s.pack != m.pack && s.name[0] > 'Z' {
		return pick(m.Rand, whole, truth, text)
	}
	return k
}

// plan says what all packages declare.
func (m *maker) plan() {
	m.packs = []string{"a", "b", "c/d"}[:1+m.Intn(3)]
	for i := range 2 * len(m.packs) {
		m.structs = append(m.structs, thing{kind: api.NodeStruct, pack: i / 2, name: []string{"T", "s"}[i%2], of: i})
	}
	for i, s := range m.structs {
		m.pack = s.pack
		for _, name := range []string{"X", "Y", "z"}[:m.Intn(4)] {
			k := m.any()
			if k.kind == 4 && k.of >= i && m.Intn(30) > 0 {
				k = whole
			}
			m.fields = append(m.fields, thing{kind: api.NodeField, pack: s.pack, of: i, name: name, typ: k})
		}
		for _, name := range []string{"M", "N", "n"} {
			if m.Intn(80) == 0 {
				name = pick(m.Rand, "X", "M")
			}
			m.things = append(m.things, m.function(api.NodeRecv, i, name))
		}
		m.things = append(m.things, thing{kind: api.NodeVar, pack: s.pack, name: fmt.Sprintf("V%d", i), typ: kindOf{4, i}})
	}
	for i := range m.packs {
		m.pack = i
		for k := range 3 {
			upper := string("Ff"[m.Intn(2)])
			m.things = append(m.things, m.function(api.NodeFunc, 0, fmt.Sprintf("%s%d", upper, k)))
			m.things = append(m.things, thing{kind: api.NodeConst, pack: i, name: fmt.Sprintf("%c%d", "Kk"[m.Intn(2)], k), typ: kindOf{kind: k + 1}})
			m.things = append(m.things, thing{kind: api.NodeVar, pack: i, name: fmt.Sprintf("%c%d", "Ww"[m.Intn(2)], k), typ: kindOf{kind: k + 1}})
		}
	}
}

// function is a function, or a method of a struct.
func (m *maker) function(kind, of int, name string) thing {
	f := thing{kind: kind, pack: m.pack, of: of, name: name}
	for range m.Intn(3) {
		f.params = append(f.params, m.any())
	}
	if m.Intn(4) > 0 {
		f.typ = m.any()
	}
	return f
}

// some is one of those things that are right; false, if there is none.
func some(r *rand.Rand, list []thing, right func(x thing) bool) (thing, bool) {
	var found []thing
	for _, x := range list {
		if right(x) {
			found = append(found, x)
		}
	}
	if len(found) == 0 {
		return thing{}, false
	}
	return pick(r, found...), true
}

// member tells whether a field or a method can be said from where it stands; at times it is wrong.
func (m *maker) member(x thing) bool { return x.pack == m.pack || x.name[0] <= 'Z' || m.errs() }

// expr is an expression of a type.
func (m *maker) expr(k kindOf, deep int) string {
	if m.errs() {
		return m.wrong(deep)
	}
	if deep > 0 {
		if s := m.try(k, deep); s != "" {
			return s
		}
	}
	return m.leaf(k)
}

// leaf is an expression of a type that has no further ones in it.
func (m *maker) leaf(k kindOf) string {
	var list []string
	for i, l := range m.locals {
		if l.typ == k && !slices.ContainsFunc(m.locals[i+1:], func(o local) bool { return o.name == l.name }) {
			list = append(list, l.name)
		}
	}
	if k.kind == 4 {
		if name := fmt.Sprintf("V%d", k.of); m.seen(m.structs[k.of].pack, name) {
			list = append(list, m.said(m.structs[k.of].pack, name))
		}
	}
	switch k {
	case whole:
		list = append(list, "1", "20", "0")
	case truth:
		list = append(list, "true", "false")
	case text:
		list = append(list, `"s"`, `""`)
	}
	if x, ok := some(m.Rand, m.things, func(x thing) bool {
		return (x.kind == api.NodeVar || x.kind == api.NodeConst) && x.typ == k && m.seen(x.pack, x.name)
	}); ok {
		list = append(list, m.said(x.pack, x.name), m.said(x.pack, x.name))
	}
	if len(list) == 0 {
		return "1"
	}
	return pick(m.Rand, list...)
}

// try is an expression of a type; none, if there is none such.
func (m *maker) try(k kindOf, deep int) string {
	switch m.Intn(6) {
	case 0, 1:
		if f, ok := some(m.Rand, m.fields, func(x thing) bool { return x.typ == k && m.member(x) }); ok {
			return m.expr(kindOf{4, f.of}, deep-1) + "." + f.name
		}
	case 2:
		return m.call(deep, func(x thing) bool { return x.typ == k })
	case 3:
		return m.signed(k, deep)
	case 4:
		if k == whole && !m.hidden("len") && !m.hidden("arg") {
			return pick(m.Rand, "len("+m.expr(text, deep-1)+")", "arg("+m.expr(whole, deep-1)+")")
		}
	default:
		return m.leaf(k)
	}
	return ""
}

// call is a call of a function or a method; none, if there is none such.
func (m *maker) call(deep int, right func(x thing) bool) string {
	f, ok := some(m.Rand, m.things, func(x thing) bool {
		return right(x) && (x.kind == api.NodeFunc && m.seen(x.pack, x.name) || x.kind == api.NodeRecv && m.member(x))
	})
	if !ok {
		return ""
	}
	s := f.name
	if f.kind == api.NodeFunc {
		s = m.said(f.pack, f.name)
	} else {
		s = m.expr(kindOf{4, f.of}, deep-1) + "." + f.name
	}
	return s + "(" + m.handed(f, deep-1) + ")"
}

// handed is what a function is handed: in rare cases too few or too many.
func (m *maker) handed(f thing, deep int) string {
	var list []string
	for _, k := range f.params {
		list = append(list, m.expr(k, deep))
	}
	if m.errs() {
		list = append(list, m.leaf(m.any()))
	}
	if m.errs() && len(list) > 0 {
		list = list[1:]
	}
	return strings.Join(list, ", ")
}

// signed is an expression with a sign.
func (m *maker) signed(k kindOf, deep int) string {
	both := func(k kindOf, signs ...string) string {
		return "(" + m.expr(k, deep-1) + " " + pick(m.Rand, signs...) + " " + m.expr(k, deep-1) + ")"
	}
	switch k {
	case whole:
		return pick(m.Rand, both(whole, "+", "-", "*", "/", "%"), "(-"+m.expr(whole, deep-1)+")")
	case truth:
		return pick(m.Rand, both(truth, "&&", "||", "==", "!="), both(pick(m.Rand, whole, text), "==", "!=", "<", "<=", ">", ">="), "(!"+m.expr(truth, deep-1)+")")
	case text:
		return both(text, "+")
	}
	return ""
}

// wrong is an expression that may well not fit.
func (m *maker) wrong(deep int) string {
	deep = max(deep-1, 0)
	x := pick(m.Rand, m.things...)
	name := pick(m.Rand, "X", "Y", "z", "M", "n", "N")
	switch m.Intn(9) {
	case 0, 1:
		return m.expr(m.any(), deep)
	case 2:
		if x.kind != api.NodeRecv && m.seen(x.pack, x.name) {
			return m.said(x.pack, x.name)
		}
	case 3:
		return m.expr(kindOf{4, m.Intn(len(m.structs))}, deep) + "." + name
	case 4:
		return m.expr(kindOf{4, m.Intn(len(m.structs))}, deep) + "." + name + "()"
	case 5:
		return "(" + m.expr(m.any(), deep) + " " + pick(m.Rand, "+", "-", "==", "<", "&&") + " " + m.expr(m.any(), deep) + ")"
	case 6:
		return m.leaf(m.any()) + "(" + m.leaf(whole) + ")"
	case 7:
		hidden, ok := some(m.Rand, slices.Concat(m.fields, m.things), func(x thing) bool {
			return x.pack != m.pack && x.name[0] > 'Z' && (x.kind == api.NodeField || x.kind == api.NodeRecv)
		})
		if ok {
			return m.expr(kindOf{4, hidden.of}, deep) + "." + hidden.name + pick(m.Rand, "", "()")
		}
	}
	if s := m.call(deep, func(thing) bool { return true }); s != "" {
		return s
	}
	return m.leaf(m.any())
}

// declare puts a name into the block, and answers it: most often one that is not there.
func (m *maker) declare(k kindOf) string {
	name := pick(m.Rand, "p", "q", "r", "x", "X", "M", "len", "f1", "V0", "d")
	if slices.ContainsFunc(m.locals, func(l local) bool { return l.name == name && l.deep == m.deep }) || m.Intn(2) == 0 {
		name = fmt.Sprintf("l%d", len(m.locals))
	}
	m.locals = append(m.locals, local{name, k, m.deep})
	return name
}

// block is a block of a few statements, and one more, if that is not empty.
func (m *maker) block(n int, end func() string) string {
	old := len(m.locals)
	m.deep++
	var list []string
	for range m.Intn(n + 1) {
		list = append(list, m.stmt())
	}
	if s := end(); s != "" {
		list = append(list, s)
	}
	m.deep--
	m.locals = m.locals[:old]
	return "{ " + strings.Join(list, "; ") + " }"
}

func none() string { return "" }

// stmt is a statement.
func (m *maker) stmt() string {
	switch kind := m.Intn(12); {
	case m.deep > 3 && kind < 4:
		return m.returned()
	case kind == 0:
		return m.block(2, none)
	case kind == 1:
		return "if " + m.expr(truth, 2) + " " + m.block(2, none) + pick(m.Rand, "", " else "+m.block(2, none), " else if "+m.expr(truth, 1)+" "+m.block(1, none))
	case kind == 2:
		return "for " + m.expr(truth, 2) + " " + m.block(2, none)
	case kind == 3 && m.errs():
		return "return " + m.expr(m.any(), 1)
	case kind < 6:
		k := m.any()
		s := m.expr(k, 3)
		typ := m.word(k)
		if name := m.declare(k); m.Intn(2) == 0 {
			return name + " := " + s
		} else {
			return "var " + name + " " + typ + " = " + s
		}
	case kind < 9:
		k := m.any()
		return m.target(k) + " = " + m.expr(k, 2)
	case kind == 9 && !m.hidden("println"):
		return "println(" + m.expr(pick(m.Rand, whole, truth, text), 2) + ")"
	}
	if m.errs() {
		return m.expr(m.any(), 2)
	}
	if s := m.call(2, func(thing) bool { return true }); s != "" {
		return s
	}
	return m.block(0, none)
}

// target is what something of a type can be put into.
func (m *maker) target(k kindOf) string {
	if m.errs() {
		return m.expr(k, 2)
	}
	if f, ok := some(m.Rand, m.fields, func(x thing) bool { return x.typ == k && m.member(x) }); ok && m.Intn(2) == 0 {
		return m.target(kindOf{4, f.of}) + "." + f.name
	}
	var list []string
	for i, l := range m.locals {
		if l.typ == k && !slices.ContainsFunc(m.locals[i+1:], func(o local) bool { return o.name == l.name }) {
			list = append(list, l.name)
		}
	}
	if x, ok := some(m.Rand, m.things, func(x thing) bool { return x.kind == api.NodeVar && x.typ == k && m.seen(x.pack, x.name) }); ok {
		list = append(list, m.said(x.pack, x.name))
	}
	if len(list) == 0 {
		return m.leaf(k)
	}
	return pick(m.Rand, list...)
}

// returned is a return that fits, or what ends as one does.
func (m *maker) returned() string {
	if m.tells.kind == 0 {
		return "return"
	}
	return "return " + m.expr(m.tells, 2)
}

// ending is how a function ends.
func (m *maker) ending() string {
	if m.tells.kind == 0 || m.errs() {
		return pick(m.Rand, "", "", m.stmt())
	}
	switch m.Intn(5) {
	case 0:
		return "if " + m.expr(truth, 1) + " " + m.block(1, m.returned) + " else " + m.block(1, m.returned)
	case 1:
		return m.block(1, m.returned)
	}
	return m.returned()
}

// declaration is a declaration of the package.
func (m *maker) declaration(x thing) string {
	m.locals = nil
	switch x.kind {
	case api.NodeConst:
		return "const " + x.name + " = " + [...]string{"", "-7", "true", `"k"`}[x.typ.kind]
	case api.NodeVar:
		s := "var " + x.name + " " + m.word(x.typ)
		if x.typ.kind == 4 || m.Intn(2) == 0 {
			return s
		}
		if m.wrongs > 0 && m.Intn(6) == 0 {
			return s + " = " + m.expr(x.typ, 1)
		}
		c, ok := some(m.Rand, m.things, func(c thing) bool { return c.kind == api.NodeConst && c.typ == x.typ && m.seen(c.pack, c.name) })
		if ok {
			return s + " = " + m.said(c.pack, c.name)
		}
		return s
	case api.NodeStruct:
		var list []string
		for _, f := range m.fields {
			if f.of == x.of {
				list = append(list, f.name+" "+m.word(f.typ))
			}
		}
		return "type " + x.name + " struct { " + strings.Join(list, "; ") + " }"
	}
	return m.written(x)
}

// written is a function or a method.
func (m *maker) written(x thing) string {
	s := "func "
	m.deep, m.tells = 0, x.typ
	m.deep++ // the block's names stand in the function's scope
	if x.kind == api.NodeRecv {
		k := kindOf{4, x.of}
		s += "(" + m.declare(k) + " " + m.structs[x.of].name + ") "
	}
	var list []string
	for _, k := range x.params {
		typ := m.word(k)
		list = append(list, m.declare(k)+" "+typ)
	}
	s += x.name + "(" + strings.Join(list, ", ") + ") "
	if x.typ.kind != 0 {
		s += m.word(x.typ) + " "
	}
	m.deep--
	return s + m.block(2, m.ending)
}

// chance is a repository by chance.
func chance(r *rand.Rand) api.Repo {
	m := &maker{Rand: r, wrongs: pick(r, 0, 40, 120)}
	m.plan()
	var list api.Repo
	for i, folder := range m.packs {
		texts := []string{"package " + m.last(i) + "\n", "package " + m.last(i) + "\n"}[:1+r.Intn(2)]
		for k := range texts {
			for j, other := range m.packs {
				if j != i {
					texts[k] += "import \"" + other + "\"\n"
				}
			}
		}
		m.pack = i
		for _, x := range slices.Concat(m.structs, m.things) {
			if x.pack == i {
				texts[r.Intn(len(texts))] += m.declaration(x) + "\n"
			}
		}
		for k, s := range texts {
			list.Files = append(list.Files, api.File{Path: folder + "/" + "xy"[k:k+1] + ".go", Text: s})
		}
	}
	return list
}

// changed is a repository with one token put in the place of another one of its Kind, so that names mean something; false, if that was not met.
func changed(r *rand.Rand, old api.Repo) (api.Repo, bool) {
	for range 12 {
		list := api.Repo{Files: slices.Clone(old.Files)}
		f := &list.Files[r.Intn(len(list.Files))]
		tokens, _ := lex.Lex(f.Text)
		one := pick(r, tokens...)
		others := slices.DeleteFunc(tokens, func(t api.Token) bool { return t.Kind != one.Kind || t.Text == one.Text })
		if one.Kind == api.TokEnd || len(others) == 0 || one.Kind == api.TokSign && r.Intn(3) > 0 {
			continue
		}
		f.Text = f.Text[:one.At] + pick(r, others...).Text + f.Text[one.At+len(one.Text):]
		p, e := scope.Read(list)
		if e.Err != api.OK {
			continue
		}
		if _, e = scope.Resolve(p); e.Err == api.OK || r.Intn(20) == 0 {
			return list, true
		}
	}
	return api.Repo{}, false
}

// P14.1 to P14.3, on programs by chance, and on such with a token changed.
func TestChance(t *testing.T) {
	r := rand.New(rand.NewSource(14))
	errs, kinds, renamed := map[api.Errno]int{}, map[[2]int]int{}, 0
	one := func(list api.Repo) {
		p, x, e := check(t, list)
		errs[e.Err]++
		count(p, x, kinds)
		if r.Intn(4) == 0 {
			checkFaces(t, r, p, e)
		}
		renamed += checkRenamed(t, r, p, x, e)
	}
	for range 220 {
		list := chance(r)
		if _, e := scope.Read(list); e.Err != api.OK {
			continue
		}
		one(list)
		for range 6 {
			if other, ok := changed(r, list); ok {
				one(other)
			}
		}
	}
	for _, err := range []api.Errno{api.OK, api.ErrTwice, api.ErrHidden, api.ErrType, api.ErrCall, api.ErrField, api.ErrAssign, api.ErrValue, api.ErrReturn, api.ErrStart, api.ErrCycle} {
		if errs[err] < 15 {
			t.Errorf("error %d was met %d times: too seldom", err, errs[err])
		}
	}
	if errs[api.OK] < 100 || renamed < 400 {
		t.Errorf("%d programs were right, %d times a local had another name: too seldom", errs[api.OK], renamed)
	}
	for kind := api.NodeFile; kind <= api.NodeBinary; kind++ {
		if kinds[[2]int{kind, 0}] < 100 {
			t.Errorf("nodes of Kind %d were met %d times: too seldom", kind, kinds[[2]int{kind, 0}])
		}
	}
	for use := api.UseLocal; use <= api.UseMethod; use++ {
		for _, kind := range means[use] {
			if kinds[[2]int{kind, use}] < 100 {
				t.Errorf("nodes of Kind %d that mean what is of Kind %d were met %d times: too seldom", kind, use, kinds[[2]int{kind, use}])
			}
		}
	}
}

// means are, by the Kinds of uses, the Kinds of nodes that may have one.
var means = map[int][]int{
	api.UseLocal:   {api.NodeName},
	api.UseTop:     {api.NodeName, api.NodeNamed, api.NodeFar, api.NodeDot, api.NodeCall},
	api.UseImport:  {api.NodeName},
	api.UseBuiltin: {api.NodeName, api.NodeCall},
	api.UseField:   {api.NodeDot},
	api.UseMethod:  {api.NodeDot, api.NodeCall},
}

// count counts the nodes of a program that is right by their Kinds, and by those of what they mean besides (0: of all).
func count(p api.Program, x api.Typed, kinds map[[2]int]int) {
	for i := range x.Means {
		for j, n := range p.Trees[i].Nodes {
			kinds[[2]int{n.Kind, 0}]++
			if u := x.Means[i][j].Kind; u != 0 {
				kinds[[2]int{n.Kind, u}]++
			}
		}
	}
}

// checkFaces holds Fields, Method and Result of a program, right or not, against what they have to tell, for a struct, a function and a node by chance.
func checkFaces(t *testing.T, r *rand.Rand, p api.Program, e api.Place) {
	t.Helper()
	s, place := scope.Resolve(p)
	w := &world{p, s.Uses, map[[2]int]verdict{}}
	if place != (api.Place{}) {
		w.uses = make([][]api.Use, len(p.Trees))
		for i, x := range p.Trees {
			w.uses[i] = make([]api.Use, len(x.Nodes))
		}
	}
	for _, list := range [][]look{w.nodes(api.NodeStruct), w.nodes(api.NodeFunc), w.nodes()} {
		one := pick(r, list...)
		is := one.kind() == api.NodeStruct && e.Err == api.OK
		typ := api.Typ{Kind: api.TypStruct, File: one.file, Node: one.at}
		var want []string
		var method look
		var found bool
		name := pick(r, "X", "M", "N", "n", "z", "f1")
		if is {
			for _, f := range one.kids() {
				want = append(want, f.node().Text)
			}
			method, found = named(w.methods(typ), name)
		}
		if l, err := types.Fields(p, typ); !slices.Equal(l, want) || is != (err == api.OK) || !is && err != api.ErrArg {
			t.Fatalf("Fields(%q, %v): %q, %d", p.Repo.Files, typ, l, err)
		}
		if u, ok := types.Method(p, typ, name); ok != found || found && u != method.use(api.UseMethod) || !found && u != (api.Use{}) {
			t.Fatalf("Method(%q, %v, %q): %v, %t", p.Repo.Files, typ, name, u, ok)
		}
		u := one.use(pick(r, api.UseTop, api.UseMethod))
		is = one.kind() == api.NodeFunc && e.Err == api.OK && (len(one.kids(api.NodeRecv)) > 0) == (u.Kind == api.UseMethod)
		var tells api.Typ
		var takes []api.Typ
		if is {
			tells = one.typ()
			for _, k := range one.kids(api.NodeParam) {
				takes = append(takes, k.typ())
			}
		}
		if typ, l, err := types.Result(p, u); typ != tells || !slices.Equal(l, takes) || is != (err == api.OK) || !is && err != api.ErrArg {
			t.Fatalf("Result(%q, %v): %v, %v, %d", p.Repo.Files, u, typ, l, err)
		}
	}
}

// isLocal tells whether a node declares a name of a function or a block.
func (l look) isLocal() bool {
	switch l.kind() {
	case api.NodeRecv, api.NodeParam, api.NodeShort:
		return true
	}
	return l.kind() == api.NodeVar && l.parent() == api.NodeBlock
}

// checkRenamed is P14.3: with another name for a local, of as many bytes, nothing changes, if no meaning does. It answers 1, if that was so.
func checkRenamed(t *testing.T, r *rand.Rand, p api.Program, x api.Typed, e api.Place) int {
	t.Helper()
	s, place := scope.Resolve(p)
	w := &world{Program: p}
	list := slices.DeleteFunc(w.nodes(api.NodeRecv, api.NodeParam, api.NodeShort, api.NodeVar), func(l look) bool { return !l.isLocal() })
	if place != (api.Place{}) || len(list) == 0 {
		return 0
	}
	one := pick(r, list...)
	old := one.node().Text
	name := pick(r, "zzzzzzzz"[:len(old)], "_________"[:len(old)])
	if other := pick(r, w.nodes()...).node().Text; len(other) == len(old) && lex.Word(other) {
		name = other
	}
	q := api.Repo{Files: slices.Clone(p.Repo.Files)}
	for j, n := range p.Trees[one.file].Nodes {
		if j == one.at || s.Uses[one.file][j] == one.use(api.UseLocal) {
			f := &q.Files[one.file]
			f.Text = f.Text[:n.At] + name + f.Text[n.At+len(old):]
		}
	}
	again, place := scope.Read(q)
	if place != (api.Place{}) {
		return 0
	}
	if meanings, place := scope.Resolve(again); place != (api.Place{}) || !scope.Same(meanings, s) {
		return 0
	}
	if y, place := types.Check(again); place != e || !types.Same(x, y) {
		t.Fatalf("Check of %q: %v, %v; with %s in the place of %s at %d of file %d: %v, %v", p.Repo.Files, x, e, name, old, one.node().At, one.file, y, place)
	}
	return 1
}
