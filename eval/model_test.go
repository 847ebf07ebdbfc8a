package eval_test

import (
	"fmt"
	"go/ast"
	"go/parser"
	"go/token"
	"math/big"
	"path"
	"slices"
	"strconv"
	"strings"

	"shipwright/api"
	"shipwright/types"
)

// world is a run as it has to go: the files are read by the library's own parser, as what is right here is Go, too; names are looked for by name while it runs; structs are maps that are copied at each reading; numbers have no ends till they are cut.
type world struct {
	files map[string][]*ast.File // by folder
	cells map[string]*any        // the variables of files, by folder and name
	args  []int64
	left  int // of the steps
	out   string
}

// object is a struct's value.
type object struct {
	of     string // the folder and the name of the struct
	fields map[string]any
}

// view is a place in the program: its file and folder, and the names that are there besides, the innermost block's last.
type view struct {
	*world
	file   *ast.File
	folder string
	blocks []map[string]*any
	tells  any
}

// stop is how a run ends.
type stop struct {
	end int
	why string
}

// goFile tells whether a path is one of a file of the language.
func goFile(p string) bool {
	return strings.Contains(p, "/") && path.Ext(p) == ".go" && path.Base(p) != ".go"
}

// begun is the world of a repository, ahead of a run.
func begun(r api.Repo, args []int64) *world {
	w := &world{files: map[string][]*ast.File{}, cells: map[string]*any{}, args: args, left: api.MaxSteps}
	for _, f := range r.Files {
		if goFile(f.Path) {
			x, err := parser.ParseFile(token.NewFileSet(), "", f.Text, parser.SkipObjectResolution)
			if err != nil {
				panic(fmt.Sprintf("%q: %v", f.Text, err))
			}
			w.files[path.Dir(f.Path)] = append(w.files[path.Dir(f.Path)], x)
		}
	}
	return w
}

// find is the declaration of a name in a folder's package, and its file: a FuncDecl, a ValueSpec or a TypeSpec.
func (w *world) find(folder, name string) (found ast.Node, in *ast.File) {
	for _, f := range w.files[folder] {
		for _, d := range f.Decls {
			switch d := d.(type) {
			case *ast.FuncDecl:
				if d.Recv == nil && d.Name.Name == name {
					return d, f
				}
			case *ast.GenDecl:
				for _, s := range d.Specs {
					if v, ok := s.(*ast.ValueSpec); ok && v.Names[0].Name == name {
						return d, f
					}
					if t, ok := s.(*ast.TypeSpec); ok && t.Name.Name == name {
						return t, f
					}
				}
			}
		}
	}
	return nil, nil
}

// method is the method of a name of a struct, and its file.
func (w *world) method(of, name string) (*ast.FuncDecl, *ast.File) {
	for _, f := range w.files[path.Dir(of)] {
		for _, d := range f.Decls {
			if d, ok := d.(*ast.FuncDecl); ok && d.Recv != nil && d.Name.Name == name && d.Recv.List[0].Type.(*ast.Ident).Name == path.Base(of) {
				return d, f
			}
		}
	}
	return nil, nil
}

// mainOf is the main of a folder's package with which a run begins, and its file; nil, if there is none.
func (w *world) mainOf(folder string) (*ast.FuncDecl, *ast.File) {
	found, in := w.find(folder, "main")
	if d, ok := found.(*ast.FuncDecl); ok && len(d.Type.Params.List) == 0 && d.Type.Results == nil {
		return d, in
	}
	return nil, nil
}

// wantRun is what Run has to tell.
func wantRun(p api.Program, folder string, args []int64) (api.Ran, api.Errno) {
	if _, place := types.Check(p); place.Err != api.OK {
		return api.Ran{}, api.ErrArg
	}
	if len(args) > api.MaxArgs {
		return api.Ran{}, api.ErrLong
	}
	w := begun(p.Repo, args)
	main, file := w.mainOf(folder)
	if main == nil {
		return api.Ran{}, api.ErrNone
	}
	s := w.whole(main, file, folder)
	return api.Ran{End: s.end, Why: s.why, Out: w.out, Steps: api.MaxSteps - w.left}, api.OK
}

// wantMains is what Mains has to tell of a program that is right.
func wantMains(p api.Program) []string {
	var list []string
	w := begun(p.Repo, nil)
	for folder := range w.files {
		if main, _ := w.mainOf(folder); main != nil {
			list = append(list, folder)
		}
	}
	slices.Sort(list)
	return list
}

// whole does all of a run.
func (w *world) whole(main *ast.FuncDecl, file *ast.File, folder string) (s stop) {
	defer func() {
		if x := recover(); x != nil {
			s = x.(stop)
		}
	}()
	for folder, files := range w.files {
		for _, f := range files {
			for _, d := range f.Decls {
				if d, ok := d.(*ast.GenDecl); ok && d.Tok == token.VAR {
					v := view{world: w, file: f, folder: folder}
					one := d.Specs[0].(*ast.ValueSpec)
					first := v.first(one)
					w.cells[folder+"/"+one.Names[0].Name] = &first
				}
			}
		}
	}
	w.called(main, file, folder, nil)
	return stop{end: api.EndDone}
}

// step takes a step.
func (w *world) step() {
	if w.left == 0 {
		panic(stop{end: api.EndSteps})
	}
	w.left--
}

// called is what a function tells that is handed some values, that of its receiver, if it has one, ahead of all.
func (w *world) called(d *ast.FuncDecl, file *ast.File, folder string, handed []any) any {
	w.step()
	v := &view{world: w, file: file, folder: folder, blocks: []map[string]*any{{}}}
	params := d.Type.Params.List
	if d.Recv != nil {
		params = append(slices.Clone(d.Recv.List), params...)
	}
	for i, p := range params {
		v.blocks[0][p.Names[0].Name] = &handed[i]
	}
	v.all(d.Body.List)
	return v.tells
}

// all does statements, and tells whether the function is done by that.
func (v *view) all(list []ast.Stmt) bool {
	return slices.ContainsFunc(list, v.do)
}

// do does a statement, and tells whether the function is done by that.
func (v *view) do(s ast.Stmt) bool {
	v.step()
	switch s := s.(type) {
	case *ast.BlockStmt:
		v.blocks = append(v.blocks, map[string]*any{})
		done := v.all(s.List)
		v.blocks = v.blocks[:len(v.blocks)-1]
		return done
	case *ast.DeclStmt:
		one := s.Decl.(*ast.GenDecl).Specs[0].(*ast.ValueSpec)
		v.declare(one.Names[0].Name, v.first(one))
	case *ast.AssignStmt:
		x := v.value(s.Rhs[0])
		if s.Tok == token.DEFINE {
			v.declare(s.Lhs[0].(*ast.Ident).Name, x)
			return false
		}
		if to, ok := ast.Unparen(s.Lhs[0]).(*ast.SelectorExpr); ok && v.imported(to.X) == "" {
			v.there(to.X).(object).fields[to.Sel.Name] = x
			return false
		}
		*v.cell(s.Lhs[0]) = x
	case *ast.ExprStmt:
		v.value(s.X)
	case *ast.IfStmt:
		if v.value(s.Cond).(bool) {
			return v.do(s.Body)
		}
		return s.Else != nil && v.do(s.Else)
	case *ast.ForStmt:
		for v.step(); v.value(s.Cond).(bool); v.step() {
			if v.do(s.Body) {
				return true
			}
		}
	case *ast.ReturnStmt:
		for _, x := range s.Results {
			v.tells = v.value(x)
		}
		return true
	default:
		panic(fmt.Sprintf("no statement: %T", s))
	}
	return false
}

// declare puts a variable into the innermost block.
func (v *view) declare(name string, x any) {
	v.blocks[len(v.blocks)-1][name] = &x
}

// first is what a variable has in the beginning.
func (v *view) first(s *ast.ValueSpec) any {
	if len(s.Values) > 0 {
		return v.value(s.Values[0])
	}
	return v.zero(s.Type)
}

// zero is the zero value of a type.
func (v *view) zero(typ ast.Expr) any {
	switch fmt.Sprint(typ) {
	case "int":
		return int64(0)
	case "bool":
		return false
	case "string":
		return ""
	}
	folder, name := v.folder, fmt.Sprint(typ)
	if far, ok := typ.(*ast.SelectorExpr); ok {
		folder, name = v.imported(far.X), far.Sel.Name
	}
	found, in := v.find(folder, name)
	w := view{world: v.world, file: in, folder: folder}
	o := object{folder + "/" + name, map[string]any{}}
	for _, f := range found.(*ast.TypeSpec).Type.(*ast.StructType).Fields.List {
		o.fields[f.Names[0].Name] = w.zero(f.Type)
	}
	return o
}

// copied is a value that shares nothing with x.
func copied(x any) any {
	o, ok := x.(object)
	if !ok {
		return x
	}
	fields := map[string]any{}
	for name, f := range o.fields {
		fields[name] = copied(f)
	}
	return object{o.of, fields}
}

// local is the variable of a name in the blocks; nil, if there is none.
func (v *view) local(name string) *any {
	for i := range v.blocks {
		if c := v.blocks[len(v.blocks)-1-i][name]; c != nil {
			return c
		}
	}
	return nil
}

// imported is the folder of the package that an expression is the name of; none, if it is another thing.
func (v *view) imported(x ast.Expr) string {
	id, ok := ast.Unparen(x).(*ast.Ident)
	if !ok || v.local(id.Name) != nil {
		return ""
	}
	for _, i := range v.file.Imports {
		if folder, _ := strconv.Unquote(i.Path.Value); path.Base(folder) == id.Name {
			return folder
		}
	}
	return ""
}

// named is the folder and the name by which an expression means a declaration of a package; no name, if it does not.
func (v *view) named(x ast.Expr) (folder, name string) {
	switch x := ast.Unparen(x).(type) {
	case *ast.Ident:
		if v.local(x.Name) == nil {
			return v.folder, x.Name
		}
	case *ast.SelectorExpr:
		if folder := v.imported(x.X); folder != "" {
			return folder, x.Sel.Name
		}
	}
	return "", ""
}

// cell is the variable that an expression means.
func (v *view) cell(x ast.Expr) *any {
	if folder, name := v.named(x); name != "" {
		return v.cells[folder+"/"+name]
	}
	return v.local(ast.Unparen(x).(*ast.Ident).Name)
}

// there is what stands where something can be put, itself and no copy.
func (v *view) there(x ast.Expr) any {
	if s, ok := ast.Unparen(x).(*ast.SelectorExpr); ok && v.imported(s.X) == "" {
		return v.there(s.X).(object).fields[s.Sel.Name]
	}
	return *v.cell(x)
}

// value is the value of an expression.
func (v *view) value(x ast.Expr) any {
	switch x := x.(type) {
	case *ast.BasicLit:
		if x.Kind == token.INT {
			n, _ := new(big.Int).SetString(x.Value, 10)
			return cut(n)
		}
		s, _ := strconv.Unquote(x.Value)
		return s
	case *ast.ParenExpr:
		return v.value(x.X)
	case *ast.UnaryExpr:
		if x.Op == token.NOT {
			return v.value(x.X) == false
		}
		return cut(new(big.Int).Neg(big.NewInt(v.value(x.X).(int64))))
	case *ast.BinaryExpr:
		return v.both(x)
	case *ast.CallExpr:
		return v.call(x)
	case *ast.Ident:
		if x.Name == "true" || x.Name == "false" {
			return x.Name == "true"
		}
	}
	if folder, name := v.named(x); name != "" {
		found, in := v.find(folder, name)
		if d := found.(*ast.GenDecl); d.Tok == token.CONST {
			w := view{world: v.world, file: in, folder: folder}
			return w.value(d.Specs[0].(*ast.ValueSpec).Values[0])
		}
		return copied(*v.cell(x))
	}
	if s, ok := x.(*ast.SelectorExpr); ok {
		return v.value(s.X).(object).fields[s.Sel.Name]
	}
	return copied(*v.cell(x))
}

// cut is a number modulo 2^64, from -2^63 on.
func cut(n *big.Int) int64 {
	half := new(big.Int).Lsh(big.NewInt(1), 63)
	n = new(big.Int).Add(n, half)
	n.Mod(n, new(big.Int).Lsh(big.NewInt(1), 64)) // never below 0
	return n.Sub(n, half).Int64()
}

// both is the value of an expression with a sign between two.
func (v *view) both(x *ast.BinaryExpr) any {
	a := v.value(x.X)
	if x.Op == token.LAND || x.Op == token.LOR {
		if a == (x.Op == token.LOR) {
			return a
		}
		return v.value(x.Y)
	}
	b := v.value(x.Y)
	order := strings.Compare(fmt.Sprint(a), fmt.Sprint(b))
	if m, ok := a.(int64); ok {
		n := b.(int64)
		if strings.Contains("+-*/%", x.Op.String()) {
			return whole(x.Op, big.NewInt(m), big.NewInt(n))
		}
		order = big.NewInt(m).Cmp(big.NewInt(n))
	}
	switch x.Op {
	case token.ADD:
		s := a.(string) + b.(string)
		if len(s) > api.MaxString {
			panic(stop{api.EndPanic, "long"})
		}
		return s
	case token.EQL:
		return order == 0
	case token.NEQ:
		return order != 0
	case token.LSS:
		return order < 0
	case token.LEQ:
		return order <= 0
	case token.GTR:
		return order > 0
	}
	return order >= 0
}

// whole is what a sign makes of two numbers.
func whole(op token.Token, a, b *big.Int) int64 {
	switch op {
	case token.ADD:
		return cut(a.Add(a, b))
	case token.SUB:
		return cut(a.Sub(a, b))
	case token.MUL:
		return cut(a.Mul(a, b))
	}
	if b.Sign() == 0 {
		panic(stop{api.EndPanic, "divide"})
	}
	if op == token.QUO {
		return cut(a.Quo(a, b))
	}
	return cut(a.Rem(a, b))
}

// call is the value of a call.
func (v *view) call(x *ast.CallExpr) any {
	var handed []any
	of := ""
	folder, name := v.named(x.Fun)
	if name == "" {
		s := ast.Unparen(x.Fun).(*ast.SelectorExpr)
		o := v.value(s.X).(object)
		handed, of, name = []any{o}, o.of, s.Sel.Name
	}
	for _, y := range x.Args {
		handed = append(handed, v.value(y))
	}
	if of != "" {
		d, in := v.method(of, name)
		return v.called(d, in, path.Dir(of), handed)
	}
	if found, in := v.find(folder, name); found != nil {
		return v.called(found.(*ast.FuncDecl), in, folder, handed)
	}
	return v.builtIn(name, handed[0])
}

// builtIn is the value of a call of a built-in name.
func (v *view) builtIn(name string, x any) any {
	switch name {
	case "println":
		line := fmt.Sprintln(x)
		if len(v.out)+len(line) > api.MaxOut {
			panic(stop{end: api.EndOut})
		}
		v.out += line
	case "len":
		return int64(len(x.(string)))
	case "arg":
		for i, n := range v.args {
			if int64(i) == x.(int64) {
				return n
			}
		}
		return int64(0)
	case "panic":
		panic(stop{api.EndPanic, x.(string)})
	}
	return nil
}
