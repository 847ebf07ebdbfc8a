package eval

import (
	"maps"

	"shipwright/api"
)

// value is what an expression comes to; nil, if it is a call that tells nothing.
func (f *frame) value(at int) value {
	n := f.node(at)
	u := f.Means[f.file][at]
	switch n.Kind {
	case api.NodeInt:
		return number(n.Num)
	case api.NodeText:
		return text(n.Text)
	case api.NodeBool:
		return truth(n.Text == "true")
	case api.NodeCall:
		return f.call(n, u)
	case api.NodeUnary:
		return opposite(f.value(n.Kids[0]))
	case api.NodeBinary:
		return f.binary(n)
	}
	if u.Kind == api.UseField {
		return f.value(n.Kids[0]).(record)[u]
	}
	return f.held(u)
}

// held is what a constant or a variable has.
func (f *frame) held(u api.Use) value {
	if u.Kind == api.UseLocal {
		return f.locals[u]
	}
	if n := f.trees[u.File].Nodes[u.Node]; n.Kind == api.NodeConst {
		return f.in(u.File).value(n.Kids[0])
	}
	return f.tops[u]
}

// put puts a value into what an expression stands for: into a field by a whole that differs in it, which is put in the old one's place.
func (f *frame) put(at int, v value) {
	switch u := f.Means[f.file][at]; u.Kind {
	case api.UseField:
		kid := f.node(at).Kids[0]
		whole := maps.Clone(f.value(kid).(record))
		whole[u] = v
		f.put(kid, whole)
	case api.UseLocal:
		f.locals[u] = v
	default:
		f.tops[u] = v
	}
}

// binary is the value of a NodeBinary. The first kid's tells by itself, if it is false ahead of &&, or true ahead of ||.
func (f *frame) binary(n api.Node) value {
	a := f.value(n.Kids[0])
	if n.Text == "&&" && a == truth(false) || n.Text == "||" && a == truth(true) {
		return a
	}
	return f.operations[n.Text](a, f.value(n.Kids[1]))
}

// call is the value of a NodeCall that calls u.
func (f *frame) call(n api.Node, u api.Use) value {
	var handed []value
	if u.Kind == api.UseMethod {
		handed = append(handed, f.value(f.node(n.Kids[0]).Kids[0]))
	}
	for _, k := range n.Kids[1:] {
		handed = append(handed, f.value(k))
	}
	if u.Kind == api.UseBuiltin {
		return f.builtIn(u.Node, handed[0])
	}
	return f.enter(u, handed)
}

// builtIn is the value of a call of the built-in name of that number.
func (f *frame) builtIn(name int, v value) value {
	switch name {
	case api.BuiltinPrintln:
		f.print(v)
	case api.BuiltinLen:
		return number(len(v.(text)))
	case api.BuiltinArg:
		return f.input(v.(number))
	case api.BuiltinPanic:
		giveUp(string(v.(text)))
	}
	return nil
}
