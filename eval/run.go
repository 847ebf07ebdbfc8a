package eval

import (
	"strings"

	"shipwright/api"
)

// ending is how a run ends, and why. What is being done then is left by panic.
type ending struct {
	end int
	why string
}

// runner is a run: what the program's nodes mean, what was handed in, the variables of all files, and what has come of it so far.
type runner struct {
	api.Typed
	trees      []api.Tree
	operations map[string]operation
	args       []int64
	tops       map[api.Use]value
	out        strings.Builder
	steps      int
}

// run is what comes of a run that begins with that main.
func run(p api.Program, typed api.Typed, main api.Use, args []int64) api.Ran {
	r := &runner{Typed: typed, trees: p.Trees, operations: operations(), args: args, tops: map[api.Use]value{}}
	e := r.ended(main)
	return api.Ran{End: e.end, Out: r.out.String(), Why: e.why, Steps: r.steps}
}

// ended does all of a run, and tells how it ends. It is the one face to which all that ends a run comes.
func (r *runner) ended(main api.Use) (e ending) {
	defer func() {
		if x, ok := recover().(ending); ok {
			e = x
		}
	}()
	r.start()
	r.enter(main, nil)
	return ending{end: api.EndDone}
}

// start gives the variables of all files what they begin with.
func (r *runner) start() {
	for u, n := range declared(r.trees) {
		if n.Kind == api.NodeVar {
			r.tops[u] = r.in(u.File).begun(u.Node)
		}
	}
}

// step takes a step.
func (r *runner) step() {
	if r.steps == api.MaxSteps {
		panic(ending{end: api.EndSteps})
	}
	r.steps++
}

// print prints a value and a line feed.
func (r *runner) print(v value) {
	line := shown(v) + "\n"
	if r.out.Len()+len(line) > api.MaxOut {
		panic(ending{end: api.EndOut})
	}
	r.out.WriteString(line)
}

// input is what was handed in at a place; 0, if nothing was.
func (r *runner) input(at number) value {
	if at < 0 || at >= number(len(r.args)) {
		return number(0)
	}
	return number(r.args[at])
}

// giveUp ends a run that can't go on.
func giveUp(why string) {
	panic(ending{end: api.EndPanic, why: why})
}
