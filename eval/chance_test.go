package eval_test

import (
	"fmt"
	"math"
	"math/rand"
	"slices"
	"strings"
	"testing"

	"shipwright/api"
	"shipwright/eval"
	"shipwright/lex"
	"shipwright/scope"
	"shipwright/types"
)

// thing is what a program by chance declares: a Kind of node, its package, its name and type; of a function what it takes, of a field or a method its struct. A struct's type is its package and its name.
type thing struct {
	kind      int
	pack      string
	name, typ string
	of        string
	params    []string
	rank      int // of a function: most often just those of lower ranks are called
}

// local is a variable of a function; one that counts is left alone.
type local struct {
	name, typ string
	counts    bool
}

// maker makes programs by chance that are right, and most of whose runs end by themselves.
type maker struct {
	*rand.Rand
	packs   []string
	structs []string
	things  []thing
	now     thing // the function that is made
	locals  []local
	blocks  []int // how many locals there were ahead of each block
	count   int   // of names
	stuck   bool  // what is made has come to nothing
}

// pick is one of several.
func pick[T any](r *rand.Rand, list ...T) T { return list[r.Intn(len(list))] }

// basic is a type that is no struct.
func (m *maker) basic() string { return pick(m.Rand, "int", "int", "bool", "string") }

// any is a type.
func (m *maker) any() string {
	if m.Intn(3) > 0 {
		return m.basic()
	}
	return pick(m.Rand, m.structs...)
}

// hidden tells whether a local has that name.
func (m *maker) hidden(name string) bool {
	return slices.ContainsFunc(m.locals, func(l local) bool { return l.name == name })
}

// said is a name of a package, as it is said from where it stands; nothing, if it can't be said there.
func (m *maker) said(pack, name string) string {
	short := scope.Name(pack)
	switch {
	case pack == m.now.pack && !m.hidden(name):
		return name
	case pack != m.now.pack && !m.hidden(short):
		return short + "." + name
	}
	return ""
}

// word is a type, as it is said from where it stands.
func (m *maker) word(typ string) string {
	i := strings.LastIndex(typ, ".")
	if i < 0 {
		return typ
	}
	return m.said(typ[:i], typ[i+1:])
}

// plan says what all packages declare.
func (m *maker) plan() {
	m.packs = []string{"a", "b", "c/d"}[:1+m.Intn(3)]
	for _, pack := range m.packs {
		for i := range 2 {
			typ := fmt.Sprintf("%s.T%d", pack, i)
			for k := range m.Intn(4) {
				m.things = append(m.things, thing{kind: api.NodeField, name: fmt.Sprintf("X%d", k), typ: pick(m.Rand, append(m.structs, "int", "bool", "string")...), of: typ})
			}
			m.structs = append(m.structs, typ)
		}
		for i, typ := range m.structs[len(m.structs)-2:] { // so there is a value of each type
			m.things = append(m.things, thing{kind: api.NodeVar, pack: pack, name: fmt.Sprintf("Z%d", i), typ: typ})
		}
		for i := range 5 {
			m.things = append(m.things,
				thing{kind: api.NodeConst, pack: pack, name: fmt.Sprintf("K%d", i), typ: m.basic()},
				thing{kind: api.NodeVar, pack: pack, name: fmt.Sprintf("V%d", i), typ: m.any()},
			)
		}
	}
	for rank := range 12 {
		m.things = append(m.things, m.function(rank))
	}
	for _, pack := range m.packs {
		m.things = append(m.things, thing{kind: api.NodeFunc, pack: pack, name: "main", rank: 20})
	}
}

// function is a function, or a method of a struct.
func (m *maker) function(rank int) thing {
	f := thing{kind: api.NodeFunc, pack: pick(m.Rand, m.packs...), name: fmt.Sprintf("F%d", rank), rank: rank}
	for range m.Intn(3) {
		f.params = append(f.params, m.any())
	}
	if m.Intn(2) == 0 {
		f.of = pick(m.Rand, m.structs...)
		f.kind, f.pack = api.NodeRecv, f.of[:strings.LastIndex(f.of, ".")]
	}
	if m.Intn(4) > 0 {
		f.typ = m.any()
	}
	return f
}

// some are the things that are right.
func (m *maker) some(right func(x thing) bool) []thing {
	return slices.DeleteFunc(slices.Clone(m.things), func(x thing) bool { return !right(x) })
}

// seen are the locals of a type that nothing hides.
func (m *maker) seen(typ string, right func(l local) bool) []string {
	var list []string
	for i, l := range m.locals {
		hides := func(o local) bool { return o.name == l.name }
		if l.typ == typ && right(l) && !slices.ContainsFunc(m.locals[i+1:], hides) {
			list = append(list, l.name)
		}
	}
	return list
}

// literal is a value that is written out; nothing of a struct.
func (m *maker) literal(typ string) string {
	switch typ {
	case "int":
		return pick(m.Rand, "0", "1", "2", "3", "7", "10", "64", "1000000007", fmt.Sprint(math.MaxInt64), fmt.Sprint(m.Int63()))
	case "bool":
		return pick(m.Rand, "true", "false")
	case "string":
		return pick(m.Rand, `""`, `"a"`, `"b\n"`, `"ab"`, `"\"\\"`, `"`+strings.Repeat("long ", m.Intn(60))+`"`)
	}
	return ""
}

// leaf is an expression of a type that has no further ones in it; nothing, if there is none.
func (m *maker) leaf(typ string) string {
	list := m.seen(typ, func(local) bool { return true })
	list = append(list, list...)
	if s := m.literal(typ); s != "" {
		list = append(list, s)
	}
	for _, x := range m.things {
		if (x.kind == api.NodeVar || x.kind == api.NodeConst) && x.typ == typ {
			if s := m.said(x.pack, x.name); s != "" {
				list = append(list, s)
			}
		}
	}
	if len(list) == 0 {
		return ""
	}
	return pick(m.Rand, list...)
}

// expr is an expression of a type; nothing, if there is none.
func (m *maker) expr(typ string, deep int) string {
	s := ""
	switch kind := m.Intn(10); {
	case deep == 0 || kind < 2:
	case kind < 4:
		if list := m.some(func(x thing) bool { return x.kind == api.NodeField && x.typ == typ }); len(list) > 0 {
			f := pick(m.Rand, list...)
			s = behind(m.expr(f.of, deep-1), "."+f.name)
		}
	case kind < 6:
		s = m.call(deep, func(x thing) bool { return x.typ == typ })
	case kind < 9:
		s = m.signed(typ, deep)
	case typ == "int":
		s = pick(m.Rand, "len("+m.expr("string", deep-1)+")", "arg("+pick(m.Rand, "0", "1", "2", m.expr("int", deep-1))+")")
	}
	if s == "" {
		return m.leaf(typ)
	}
	return s
}

// behind is an expression and what stands behind it, if there is one.
func behind(s, more string) string {
	if s == "" {
		return ""
	}
	return s + more
}

// call is a call of a function or a method; nothing, if there is none such.
func (m *maker) call(deep int, right func(x thing) bool) string {
	any := m.Intn(40) == 0
	list := m.some(func(x thing) bool {
		return right(x) && (x.kind == api.NodeFunc || x.kind == api.NodeRecv) && (any || x.rank < m.now.rank) && (x.name != "main" || x.pack == m.now.pack)
	})
	if len(list) == 0 {
		return ""
	}
	f := pick(m.Rand, list...)
	s := m.said(f.pack, f.name)
	if f.kind == api.NodeRecv {
		s = behind(m.expr(f.of, deep-1), "."+f.name)
	}
	var handed []string
	for _, typ := range f.params {
		one := m.expr(typ, deep-1)
		if one == "" {
			return ""
		}
		handed = append(handed, one)
	}
	return behind(s, "("+strings.Join(handed, ", ")+")")
}

// signed is an expression with a sign; what is divided is most often divided by something else than 0.
func (m *maker) signed(typ string, deep int) string {
	both := func(typ string, signs ...string) string {
		return "(" + m.expr(typ, deep-1) + " " + pick(m.Rand, signs...) + " " + m.expr(typ, deep-1) + ")"
	}
	switch typ {
	case "int":
		by := pick(m.Rand, "2", "3", "7", "(-1)", "(-5)", "1000")
		if m.Intn(6) == 0 {
			by = m.expr(typ, deep-1)
		}
		return pick(m.Rand, both(typ, "+", "-", "*"), both(typ, "+", "-", "*"), "("+m.expr(typ, deep-1)+pick(m.Rand, " / ", " % ")+by+")", "(- "+m.expr(typ, deep-1)+")")
	case "bool":
		return pick(m.Rand, both(typ, "&&", "||", "==", "!="), both(typ, "&&", "||"), both("int", "==", "!=", "<", "<=", ">", ">="), both("string", "==", "!=", "<", "<=", ">", ">="), "(!"+m.expr(typ, deep-1)+")")
	case "string":
		return both(typ, "+")
	}
	return ""
}

// declare puts a local into the block, and answers its name: most often one that hides nothing.
func (m *maker) declare(typ string, counts bool) string {
	m.count++
	name := fmt.Sprintf("l%d", m.count)
	if m.Intn(3) == 0 {
		name = pick(m.Rand, "p", "q", "V0", "K1", "T0", "b", "d", "F3")
	}
	if slices.ContainsFunc(m.locals[m.blocks[len(m.blocks)-1]:], func(l local) bool { return l.name == name }) || counts {
		name = fmt.Sprintf("l%d", m.count)
	}
	m.locals = append(m.locals, local{name, typ, counts})
	return name
}

// block is a block of a few statements between those that it begins and ends with.
func (m *maker) block(n int, first string, last func() string) string {
	return m.within(len(m.locals), n, first, last)
}

// within is such a block; the locals from that number on are its own.
func (m *maker) within(from, n int, first string, last func() string) string {
	m.blocks = append(m.blocks, from)
	list := []string{first}
	for range m.Intn(n + 1) {
		list = append(list, m.stmt())
	}
	list = append(list, last())
	m.locals = m.locals[:m.blocks[len(m.blocks)-1]]
	m.blocks = m.blocks[:len(m.blocks)-1]
	list = slices.DeleteFunc(list, func(s string) bool { return s == "" })
	return "{ " + strings.Join(list, "; ") + " }"
}

func none() string { return "" }

// stmt is a statement; nothing, if the one that was to be can't.
func (m *maker) stmt() string {
	deep := len(m.blocks)
	switch kind := m.Intn(16); {
	case deep > 3 && kind < 6:
		return m.print()
	case kind == 0:
		return m.block(3, "", none)
	case kind == 1 || kind == 2:
		return "if " + m.expr("bool", 2) + " " + m.block(3, "", m.maybe) + m.otherwise()
	case kind == 3 || kind == 4:
		return m.loop()
	case kind < 8:
		return m.variable()
	case kind < 12:
		typ := m.any()
		to, s := m.target(typ), m.expr(typ, 3)
		if to == "" || s == "" {
			return ""
		}
		return to + " = " + s
	case kind == 12:
		if m.Intn(30) == 0 {
			return "panic(" + m.expr("string", 2) + ")"
		}
		return m.call(2, func(thing) bool { return true })
	}
	return m.print()
}

// print is a statement that prints.
func (m *maker) print() string { return "println(" + m.expr(m.basic(), 3) + ")" }

// maybe is a return, or nothing.
func (m *maker) maybe() string {
	if m.Intn(3) > 0 {
		return ""
	}
	return m.returned()
}

// otherwise is what an if has besides.
func (m *maker) otherwise() string {
	switch m.Intn(4) {
	case 0:
		return " else " + m.block(2, "", m.maybe)
	case 1:
		return " else if " + m.expr("bool", 2) + " " + m.block(2, "", m.maybe) + m.otherwise()
	}
	return ""
}

// loop is a loop that is most often left behind a few rounds.
func (m *maker) loop() string {
	if m.Intn(12) == 0 {
		return "for " + m.expr("bool", 2) + " " + m.block(3, "", m.maybe)
	}
	m.blocks = append(m.blocks, len(m.locals))
	i := m.declare("int", true)
	s := fmt.Sprintf("{ %s := 0; for %s < %d ", i, i, pick(m.Rand, 2, 3, 5, 40)) + m.block(3, i+" = "+i+" + 1", m.maybe) + " }"
	m.locals = m.locals[:m.blocks[len(m.blocks)-1]]
	m.blocks = m.blocks[:len(m.blocks)-1]
	return s
}

// variable is a statement that declares a local.
func (m *maker) variable() string {
	typ := m.any()
	word, s := m.word(typ), m.expr(typ, 3)
	switch {
	case word == "":
		return ""
	case s == "" || m.Intn(3) == 0:
		return "var " + m.declare(typ, false) + " " + word
	case m.Intn(2) == 0:
		return "var " + m.declare(typ, false) + " " + word + " = " + s
	}
	return m.declare(typ, false) + " := " + s
}

// target is what something of a type can be put into; nothing, if there is nothing.
func (m *maker) target(typ string) string {
	if list := m.some(func(x thing) bool { return x.kind == api.NodeField && x.typ == typ }); len(list) > 0 && m.Intn(2) == 0 {
		f := pick(m.Rand, list...)
		return behind(m.target(f.of), "."+f.name)
	}
	list := m.seen(typ, func(l local) bool { return !l.counts })
	for _, x := range m.things {
		if x.kind == api.NodeVar && x.typ == typ {
			if s := m.said(x.pack, x.name); s != "" {
				list = append(list, s)
			}
		}
	}
	if len(list) == 0 {
		return ""
	}
	return pick(m.Rand, list...)
}

// returned is a return; nothing, if there is nothing to tell.
func (m *maker) returned() string {
	if m.now.typ == "" {
		return "return"
	}
	if s := m.expr(m.now.typ, 2); s != "" {
		return "return " + s
	}
	return ""
}

// ending is how a function ends: one that tells something by a return.
func (m *maker) ending() string {
	if m.now.typ == "" {
		return m.stmt()
	}
	s := m.returned()
	m.stuck = s == ""
	return s
}

// declaration is a declaration of a package.
func (m *maker) declaration(x thing) string {
	m.now, m.locals, m.blocks = x, nil, nil
	switch x.kind {
	case api.NodeConst:
		s := m.literal(x.typ)
		if x.typ == "int" {
			s = pick(m.Rand, "", "-") + s
		}
		return "const " + x.name + " = " + s
	case api.NodeVar:
		s := "var " + x.name + " " + m.word(x.typ)
		list := m.some(func(c thing) bool { return c.kind == api.NodeConst && c.typ == x.typ })
		if len(list) == 0 || m.Intn(2) == 0 {
			return s
		}
		one := pick(m.Rand, list...)
		return s + " = " + m.said(one.pack, one.name)
	}
	for m.stuck = true; m.stuck; {
		m.locals, m.stuck = nil, false
		s := m.written(x)
		if !m.stuck {
			return s
		}
	}
	return ""
}

// written is a function or a method.
func (m *maker) written(x thing) string {
	tells := m.word(x.typ)
	var params []string
	for _, typ := range x.params {
		params = append(params, m.word(typ))
	}
	m.blocks = []int{0}
	s := "func "
	if x.kind == api.NodeRecv {
		s += "(" + m.declare(x.of, false) + " " + x.of[strings.LastIndex(x.of, ".")+1:] + ") "
	}
	for i, typ := range x.params {
		params[i] = m.declare(typ, false) + " " + params[i]
	}
	m.blocks = nil
	return s + x.name + "(" + strings.Join(params, ", ") + ") " + tells + " " + m.within(0, 6, "", m.ending)
}

// structure is a struct.
func (m *maker) structure(typ string) string {
	i := strings.LastIndex(typ, ".")
	m.now, m.locals = thing{pack: typ[:i]}, nil
	var fields []string
	for _, x := range m.things {
		if x.kind == api.NodeField && x.of == typ {
			fields = append(fields, x.name+" "+m.word(x.typ))
		}
	}
	return "type " + typ[i+1:] + " struct { " + strings.Join(fields, "; ") + " }"
}

// chance is a repository by chance.
func chance(r *rand.Rand) api.Repo {
	m := &maker{Rand: r}
	m.plan()
	var list api.Repo
	for _, pack := range m.packs {
		texts := []string{"package " + scope.Name(pack) + "\n", "package " + scope.Name(pack) + "\n"}[:1+r.Intn(2)]
		for i := range texts {
			for _, other := range m.packs {
				if other != pack {
					texts[i] += "import \"" + other + "\"\n"
				}
			}
		}
		for _, typ := range m.structs {
			if strings.HasPrefix(typ, pack+".") {
				texts[r.Intn(len(texts))] += m.structure(typ) + "\n"
			}
		}
		for _, x := range m.things {
			if x.pack == pack {
				texts[r.Intn(len(texts))] += m.declaration(x) + "\n"
			}
		}
		for i, s := range texts {
			list.Files = append(list.Files, api.File{Path: pack + "/" + "xy"[i:i+1] + ".go", Text: s})
		}
	}
	return list
}

// changed is a program with one token put in the place of another one of its Kind that is right, too; false, if that was not met.
func changed(r *rand.Rand, old api.Repo) (api.Program, bool) {
	for range 12 {
		list := api.Repo{Files: slices.Clone(old.Files)}
		f := &list.Files[r.Intn(len(list.Files))]
		tokens, _ := lex.Lex(f.Text)
		one := pick(r, tokens...)
		others := slices.DeleteFunc(tokens, func(t api.Token) bool { return t.Kind != one.Kind || t.Text == one.Text })
		if one.Kind == api.TokEnd || len(others) == 0 {
			continue
		}
		f.Text = f.Text[:one.At] + pick(r, others...).Text + f.Text[one.At+len(one.Text):]
		p, e := scope.Read(list)
		if e.Err != api.OK {
			continue
		}
		if _, e = types.Check(p); e.Err == api.OK {
			return p, true
		}
	}
	return api.Program{}, false
}

// tally is what was met.
type tally struct {
	ends  map[int]int
	whys  map[string]int
	kinds map[int]int
	lines int
}

// met runs all mains of a program with several inputs, and counts what is met.
func (m *tally) met(t *testing.T, r *rand.Rand, p api.Program) {
	t.Helper()
	list, err := eval.Mains(p)
	if err != api.OK || !slices.Equal(list, wantMains(p)) {
		t.Fatalf("Mains(%q): %q, %d", p.Repo.Files, list, err)
	}
	for _, folder := range append(list, "none") {
		for _, args := range [][]int64{nil, {int64(r.Intn(5)), -1}, {math.MaxInt64, math.MinInt64, r.Int63() - r.Int63()}} {
			ran, err := check(t, p, folder, args...)
			if err == api.OK {
				m.ends[ran.End]++
				m.whys[ran.Why]++
				m.lines += strings.Count(ran.Out, "\n")
			}
		}
	}
	for _, x := range p.Trees {
		for _, n := range x.Nodes {
			m.kinds[n.Kind]++
		}
	}
}

// P16.1 to P16.3, on programs by chance, and on such with a token changed.
func TestChance(t *testing.T) {
	r := rand.New(rand.NewSource(16))
	m := tally{map[int]int{}, map[string]int{}, map[int]int{}, 0}
	for range 60 {
		list := chance(r)
		p, e := scope.Read(list)
		if e.Err != api.OK {
			continue // too long
		}
		if _, e = types.Check(p); e.Err != api.OK {
			t.Fatalf("Check(%q): %v: %.60q", list.Files, e, list.Files[e.File].Text[e.At:])
		}
		m.met(t, r, p)
		for range 3 {
			if other, ok := changed(r, list); ok {
				m.met(t, r, other)
			}
		}
	}
	for end, least := range map[int]int{api.EndDone: 300, api.EndPanic: 40, api.EndSteps: 10, api.EndOut: 40} {
		if m.ends[end] < least {
			t.Errorf("End %d was met %d times: too seldom", end, m.ends[end])
		}
	}
	own := m.ends[api.EndPanic] - m.whys["divide"] - m.whys["long"]
	if m.whys["divide"] < 20 || m.whys["long"] < 3 || own < 10 || m.lines < 20000 {
		t.Errorf("%d lines, and gave up for %v: too seldom", m.lines, m.whys)
	}
	for kind := api.NodeFile; kind <= api.NodeBinary; kind++ {
		if m.kinds[kind] < 300 {
			t.Errorf("nodes of Kind %d were met %d times: too seldom", kind, m.kinds[kind])
		}
	}
}
