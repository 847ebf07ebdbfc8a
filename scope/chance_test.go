package scope_test

import (
	"math/rand"
	"slices"
	"strings"
	"testing"

	"shipwright/api"
	"shipwright/scope"
)

// maker makes the text of a file by chance, of few names, so that these meet.
type maker struct {
	*rand.Rand
	strings.Builder
	left int      // how many more parts it may have
	far  []string // names of packages: those that it imports, and others
}

// pick is one of several.
func pick[T any](r *rand.Rand, list ...T) T { return list[r.Intn(len(list))] }

// paths are where files by chance stand.
var paths = []string{"a/x.go", "a/y.go", "a/z.go", "b/a/x.go", "b/a/y.go", "b/x.go", "b/y.go", "c/d/len/x.go", "d", "e/x.go", "e/x.md", "x.go"}

func name(r *rand.Rand) string {
	return pick(r, "a", "b", "e", "len", "println", "x", "y", "f", "A", "B", "T", "S", "V", "_")
}

// put puts texts one behind the other.
func (m *maker) put(texts ...string) {
	for _, s := range texts {
		m.WriteString(s)
	}
}

// many is up to n times the same.
func (m *maker) many(n int, between string, one func()) {
	for i := range m.Intn(n + 1) {
		if i > 0 {
			m.put(between)
		}
		one()
	}
}

func (m *maker) typ() {
	switch m.Intn(4) {
	case 0, 1:
		m.put(pick(m.Rand, "int", "bool", "string"))
	case 2:
		m.put(pick(m.Rand, "T", "S", "T", name(m.Rand)))
	default:
		m.put(pick(m.Rand, m.far...), ".", pick(m.Rand, "T", "S", "T", name(m.Rand)))
	}
}

func (m *maker) expr(deep int) {
	m.left--
	if deep == 0 || m.left < 0 {
		m.put(pick(m.Rand, "1", "true", name(m.Rand), name(m.Rand)))
		return
	}
	switch m.Intn(8) {
	case 0:
		m.put(pick(m.Rand, "-", "!"))
		m.expr(0)
	case 1:
		m.expr(deep - 1)
		m.put(pick(m.Rand, " + ", " * ", " && "))
		m.expr(0)
	case 2, 3, 4:
		m.put(pick(m.Rand, pick(m.Rand, m.far...), pick(m.Rand, m.far...), "(x)", name(m.Rand)), ".", name(m.Rand))
	case 5:
		m.put(name(m.Rand), "(")
		m.many(2, ", ", func() { m.expr(deep - 1) })
		m.put(")")
	case 6:
		m.put("f().", name(m.Rand), ".", name(m.Rand))
	default:
		m.put(name(m.Rand))
	}
}

func (m *maker) block(deep int) {
	m.put("{ ")
	m.many(4, "; ", func() { m.stmt(deep) })
	m.put(" }")
}

func (m *maker) stmt(deep int) {
	m.left--
	kind := m.Intn(9)
	if deep == 0 || m.left < 0 {
		kind = 6 + m.Intn(3)
	}
	switch kind {
	case 0, 1:
		m.block(deep - 1)
	case 2:
		m.put("if ")
		m.expr(1)
		m.put(" ")
		m.block(deep - 1)
		m.many(1, "", func() {
			m.put(" else ")
			m.many(1, "", func() { m.put("if x ") })
			m.block(deep - 1)
		})
	case 3:
		m.put("for ")
		m.expr(1)
		m.put(" ")
		m.block(deep - 1)
	case 4:
		m.put("return ")
		m.expr(2)
	case 5:
		m.expr(1)
		m.put(" = ")
		m.expr(2)
	case 6:
		m.variable()
	case 7:
		m.put(name(m.Rand), " := ")
		m.expr(2)
	default:
		m.expr(2)
	}
}

func (m *maker) variable() {
	m.put("var ", name(m.Rand), " ")
	m.typ()
	m.many(1, "", func() {
		m.put(" = ")
		m.expr(2)
	})
}

func (m *maker) typed() {
	m.put(name(m.Rand), " ")
	m.typ()
}

func (m *maker) decl() {
	switch m.Intn(6) {
	case 0:
		m.put("const ", name(m.Rand), " = 1")
	case 1:
		m.variable()
	case 2:
		m.put("type ", pick(m.Rand, "T", "S", name(m.Rand)), " struct { ")
		m.many(3, "; ", m.typed)
		m.put(" }")
	default:
		m.put("func ")
		m.many(1, "", func() { m.put("(", name(m.Rand), " ", pick(m.Rand, "T", "S", name(m.Rand)), ") ") })
		m.put(name(m.Rand), "(")
		m.many(2, ", ", m.typed)
		m.put(") ")
		m.many(1, "", m.typ)
		m.put(" ")
		m.block(3)
	}
}

// chance is a repository by chance.
func chance(r *rand.Rand) api.Repo {
	var list api.Repo
	var folders []string
	for _, path := range paths {
		if r.Intn(2) == 0 {
			list.Files = append(list.Files, api.File{Path: path})
			own, _ := wantFolder(path)
			folders = append(folders, own)
		}
	}
	for i, f := range list.Files {
		m := &maker{Rand: r, left: 12, far: []string{"a", "e"}}
		own, _ := wantFolder(f.Path)
		m.put("package ", wantName(own))
		m.many(3, "", func() {
			s := pick(r, folders...)
			m.put("; import \"", s, "\"")
			if s != "" {
				m.far = append(m.far, wantName(s), wantName(s))
			}
		})
		m.put("; ")
		m.many(4, "; ", m.decl)
		list.Files[i].Text = m.String()
	}
	return list
}

// there are the names that an import's package declares, shown or not, of structs alone or of all.
func there(p api.Program, one look, structs bool) []string {
	var list []string
	if len(one.Trees) == 0 {
		return nil
	}
	for _, d := range declarations(p, one.node().Text) {
		if n := d.node(); !structs || n.Kind == api.NodeStruct {
			list = append(list, n.Text)
		}
	}
	return list
}

// repaired is a repository with something else in the place of the node that is wrong: most often another word. As it is repaired again and again, it need not be right at once.
func repaired(t *testing.T, r *rand.Rand, old api.Repo, e api.Place) api.Repo {
	t.Helper()
	p := mustRead(t, old)
	l := look{p, e.File, slices.IndexFunc(p.Trees[e.File].Nodes, func(n api.Node) bool {
		return n.At == e.At && (isUse(n.Kind) || isDeclaration(n.Kind))
	})}
	n := l.node()
	text := old.Files[e.File].Text
	from, to, word := n.At, n.At+len(n.Text), name(r)
	switch {
	case n.Kind == api.NodeImport && r.Intn(2) == 0:
		other, _ := wantFolder(pick(r, old.Files...).Path)
		to, word = n.To, "\""+other+"\""
	case n.Kind == api.NodeImport: // it goes, with the end behind it
		from, to, word = n.From, n.To+1, ""
	case isDeclaration(n.Kind):
		word = pick(r, word, "q1", "q2", "Q3", "Q4", "q5", "Q6", "q7", "Q8")
	case n.Kind == api.NodeNamed:
		if word = pick(r, "T", "S", "int", word); l.parent() == api.NodeRecv && r.Intn(2) == 0 {
			word, text = "T", text+"; type T struct { }"
		}
	case n.Kind == api.NodeFar || n.Kind == api.NodeDot:
		one, ok := l.imported(l.to(n.Kids[0]).node().Text)
		if list := l.imports(); !ok && len(list) > 0 { // another import, at its kid's place; then its own name's turn comes
			kid := l.to(n.Kids[0]).node()
			from, to, word = kid.At, kid.To, wantName(pick(r, list...).node().Text)
			break
		}
		list := there(p, one, n.Kind == api.NodeFar)
		if word = pick(r, append(list, word)...); len(list) == 0 || r.Intn(9) == 0 {
			from, word = n.From, map[int]string{api.NodeFar: "int", api.NodeDot: "(1)"}[n.Kind]
		}
	default:
		for k := 0; k < 20 && l.means(word).Kind == 0; k++ {
			word = name(r)
		}
		if list := l.imports(); l.parent() == api.NodeDot && len(list) > 0 && r.Intn(4) > 0 {
			word = wantName(pick(r, list...).node().Text)
		}
	}
	files := slices.Clone(old.Files)
	files[e.File].Text = text[:from] + word + text[to:]
	if _, e := scope.Read(api.Repo{Files: files}); e.Err != api.OK {
		return old
	}
	return api.Repo{Files: files}
}

// right goes from a repository by chance on, by repairs, to one that is right; false, if it does not come to one. All on the way are held against what Resolve has to tell.
func right(t *testing.T, r *rand.Rand, errs map[api.Errno]int) (api.Repo, api.Scopes, bool) {
	t.Helper()
	list := chance(r)
	if _, e := scope.Read(list); e.Err != api.OK {
		t.Fatalf("Read(%q): %v", list.Files, e)
	}
	for range 100 {
		s, e := check(t, list)
		errs[e.Err]++
		if r.Intn(8) == 0 {
			checkOrder(t, r, list)
		}
		if e.Err == api.OK {
			return list, s, true
		}
		list = repaired(t, r, list, e)
	}
	return api.Repo{}, api.Scopes{}, false
}

// P13.1 to P13.4, on programs by chance that are right, and on those that led there.
func TestChance(t *testing.T) {
	r := rand.New(rand.NewSource(13))
	errs, kinds, fars := map[api.Errno]int{}, map[int]int{}, map[[2]int]int{}
	for range 200 {
		list, s, ok := right(t, r, errs)
		if !ok {
			continue
		}
		for _, uses := range s.Uses {
			for _, u := range uses {
				kinds[u.Kind]++
			}
		}
		p := mustRead(t, list)
		checkFars(t, p, s, fars)
		checkDeclared(t, p)
		checkOrder(t, r, list)
		checkFresh(t, r, p, s)
	}
	for _, err := range []api.Errno{api.OK, api.ErrImport, api.ErrTwice, api.ErrUnknown, api.ErrHidden, api.ErrAlone, api.ErrKind} {
		if errs[err] < 40 {
			t.Errorf("error %d was met %d times: too seldom", err, errs[err])
		}
	}
	for kind := range 5 {
		if kinds[kind] < 100 {
			t.Errorf("uses of Kind %d were met %d times: too seldom", kind, kinds[kind])
		}
	}
	for _, in := range [][2]int{{api.NodeVar, api.NodeFile}, {api.NodeVar, api.NodeBlock}, {api.NodeField, api.NodeStruct}, {api.NodeParam, api.NodeFunc}, {api.NodeFunc, api.NodeFile}} {
		if fars[in] < 10 {
			t.Errorf("NodeFars in nodes of the Kinds %v were met %d times: too seldom", in, fars[in])
		}
	}
}

// checkFars is P13.2: a NodeFar means a struct, its NodeName nothing. It counts them by the Kinds of the node in which they stand, and of the one round that.
func checkFars(t *testing.T, p api.Program, s api.Scopes, fars map[[2]int]int) {
	t.Helper()
	for i, x := range p.Trees {
		for j, n := range x.Nodes {
			if n.Kind != api.NodeFar {
				continue
			}
			u := s.Uses[i][j]
			if u.Kind != api.UseTop || p.Trees[u.File].Nodes[u.Node].Kind != api.NodeStruct || s.Uses[i][n.Kids[0]] != (api.Use{}) {
				t.Fatalf("%q: file %d, node %d: %v, its NodeName: %v", p.Repo.Files, i, j, u, s.Uses[i][n.Kids[0]])
			}
			up, _, _ := look{p, i, j}.up()
			fars[[2]int{up.node().Kind, up.parent()}]++
		}
	}
}

// checkDeclared holds Declared against what it has to tell (P13.3).
func checkDeclared(t *testing.T, p api.Program) {
	t.Helper()
	names := []string{"a", "b", "e", "len", "println", "x", "y", "f", "A", "B", "T", "S", "V", "_", "q1", "Q3", ""}
	for _, d := range []string{"a", "b", "b/a", "c/d/len", "e", "d", "x", ""} {
		for _, s := range names {
			var want api.Use
			one, wantOk := inPackage(p, d, s)
			if wantOk {
				want = one.use(api.UseTop)
			}
			if u, ok := scope.Declared(p, d, s); u != want || ok != wantOk {
				t.Fatalf("Declared(%q, %q, %q): %v, %t, want %v", p.Repo.Files, d, s, u, ok, want)
			}
		}
	}
}

// shuffled is a repository with the texts of each package's files in another order, and where each file has gone.
func shuffled(r *rand.Rand, old api.Repo) (api.Repo, []int) {
	files := slices.Clone(old.Files)
	to := make([]int, len(files))
	for i := range to {
		to[i] = i
	}
	for i := range to {
		j := r.Intn(len(to))
		a, aOk := wantFolder(files[i].Path)
		b, bOk := wantFolder(files[j].Path)
		if aOk && bOk && a == b {
			to[i], to[j] = to[j], to[i]
		}
	}
	for i, j := range to {
		files[j].Text = old.Files[i].Text
	}
	return api.Repo{Files: files}, to
}

// checkOrder is P13.4: with the files of each package in another order each name means what it meant, and what was wrong is.
func checkOrder(t *testing.T, r *rand.Rand, old api.Repo) {
	t.Helper()
	list, to := shuffled(r, old)
	was, before := check(t, old)
	is, behind := check(t, list)
	if (before.Err == api.OK) != (behind.Err == api.OK) {
		t.Fatalf("%q: %v, as %q: %v", old.Files, before, list.Files, behind)
	}
	want := make([][]api.Use, len(was.Uses))
	for i, uses := range was.Uses {
		for _, u := range uses {
			if u.Kind != 0 && u.Kind != api.UseBuiltin {
				u.File = to[u.File]
			}
			want[to[i]] = append(want[to[i]], u)
		}
	}
	if !scope.Same(is, api.Scopes{Uses: want}) {
		t.Fatalf("%q, as %q: %v, want %v", old.Files, list.Files, is, want)
	}
}

// checkFresh is P13.4: another name for a declaration of a package, which nothing else has, changes no meaning.
func checkFresh(t *testing.T, r *rand.Rand, p api.Program, s api.Scopes) {
	t.Helper()
	var tops []look
	for _, f := range p.Repo.Files {
		if d, ok := wantFolder(f.Path); ok {
			tops = append(tops, declarations(p, d)...)
		}
	}
	if len(tops) == 0 {
		return
	}
	one := tops[r.Intn(len(tops))]
	fresh := "fresh"
	if wantShown(one.node().Text) {
		fresh = "Fr"
	}
	files := slices.Clone(p.Repo.Files)
	for i, x := range p.Trees {
		var places []int
		for j, n := range x.Nodes {
			if i == one.file && j == one.at || s.Uses[i][j] == one.use(api.UseTop) {
				places = append(places, n.At)
			}
		}
		slices.Sort(places)
		for _, at := range slices.Backward(places) {
			text := files[i].Text
			files[i].Text = text[:at] + fresh + text[at+len(one.node().Text):]
		}
	}
	if again, e := check(t, api.Repo{Files: files}); e.Err != api.OK || !scope.Same(again, s) {
		t.Fatalf("%q, as %q: %v, %v, want %v", p.Repo.Files, files, again, e, s)
	}
}
