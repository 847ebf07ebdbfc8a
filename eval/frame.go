package eval

import "shipwright/api"

// frame is a call of a function: the file in which that stands, its variables, and what it tells, once it is done.
type frame struct {
	*runner
	file   int
	locals map[api.Use]value
	tells  value
}

// in is a frame in a file, without variables.
func (r *runner) in(file int) *frame {
	return &frame{runner: r, file: file}
}

// enter calls a function or a method, and is what it tells; what it is handed goes to its NodeRecv and NodeParams, which are its first kids.
func (r *runner) enter(u api.Use, handed []value) value {
	r.step()
	f := r.in(u.File)
	f.locals = map[api.Use]value{}
	kids := f.node(u.Node).Kids
	for i, v := range handed {
		f.locals[f.local(kids[i])] = v
	}
	f.row(f.node(kids[len(kids)-1]).Kids)
	return f.tells
}

// node is a node of the frame's file.
func (f *frame) node(at int) api.Node { return f.trees[f.file].Nodes[at] }

// local is the use that means a variable of the function.
func (f *frame) local(at int) api.Use {
	return api.Use{Kind: api.UseLocal, File: f.file, Node: at}
}

// row does statements, one behind the other, and tells whether one of them ends the function.
func (f *frame) row(kids []int) bool {
	for _, k := range kids {
		if f.do(k) {
			return true
		}
	}
	return false
}

// do does a statement, and tells whether it ends the function.
func (f *frame) do(at int) bool {
	f.step()
	n := f.node(at)
	switch n.Kind {
	case api.NodeBlock:
		return f.row(n.Kids)
	case api.NodeVar, api.NodeShort:
		f.locals[f.local(at)] = f.begun(at)
	case api.NodeAssign:
		f.put(n.Kids[0], f.value(n.Kids[1]))
	case api.NodeExpr:
		f.value(n.Kids[0])
	case api.NodeIf:
		return f.branch(n.Kids)
	case api.NodeFor:
		return f.loop(n.Kids)
	case api.NodeReturn:
		if len(n.Kids) > 0 {
			f.tells = f.value(n.Kids[0])
		}
		return true
	}
	return false
}

// begun is what a variable begins with: its NodeVar or NodeShort has the expression as its last kid, but for a NodeVar that has a type alone.
func (f *frame) begun(at int) value {
	n := f.node(at)
	if n.Kind == api.NodeVar && len(n.Kids) == 1 {
		return f.zero(f.Types[f.file][at])
	}
	return f.value(n.Kids[len(n.Kids)-1])
}

// zero is the zero value of a type.
func (f *frame) zero(t api.Typ) value {
	switch t.Kind {
	case api.TypInt:
		return number(0)
	case api.TypBool:
		return truth(false)
	case api.TypString:
		return text("")
	}
	fields := record{}
	for _, k := range f.trees[t.File].Nodes[t.Node].Kids {
		fields[api.Use{Kind: api.UseField, File: t.File, Node: k}] = f.zero(f.Types[t.File][k])
	}
	return fields
}

// branch does what a NodeIf has for its condition, if it has something, and tells whether that ends the function.
func (f *frame) branch(kids []int) bool {
	if f.value(kids[0]).(truth) {
		return f.do(kids[1])
	}
	return f.row(kids[2:])
}

// loop does a NodeFor's block while its condition is true, and tells whether that ends the function.
func (f *frame) loop(kids []int) bool {
	for {
		f.step()
		if !f.value(kids[0]).(truth) {
			return false
		}
		if f.do(kids[1]) {
			return true
		}
	}
}
