package mean

import (
	"slices"

	"retroact/api"
)

// anyCtor is the N of an arm for every constructor.
const anyCtor = -1

// evaluator evaluates the expressions of an invocation. They may be nested so deeply, in each of the nested calls, that a function that calls itself for each of them would exceed its stack, from which a program cannot recover. So it keeps a stack of its own.
type evaluator struct {
	prog api.Prog
	// self is the reference to the actor.
	self api.Value
	// vars are the values of the state variables.
	vars []api.Value
	// used is the fuel.
	used int
	// frames hold the slots of the handler or initializer, and of each call within another one. Those that have not been stored yet are missing at the end; they are not read.
	frames [][]api.Value
	// tasks are the expressions that are being evaluated, each within the one before.
	tasks []task
	// values are those of the Kids that have been evaluated for these tasks.
	values []api.Value
}

// task is an expression that is being evaluated, or, without one, the rest of a call behind the body of the function.
type task struct {
	x *api.Expr
	// done is the number of Kids whose evaluation has begun.
	done int
}

// open returns an evaluator with some slots and without state variables.
func open(p api.Prog, slots []api.Value) *evaluator {
	return &evaluator{prog: p, frames: [][]api.Value{slices.Clone(slots)}}
}

// evaluate returns the value of an expression.
func (e *evaluator) evaluate(x *api.Expr) api.Value {
	e.begin(x)
	for len(e.tasks) > 0 {
		e.step()
	}
	return e.pop()
}

func (e *evaluator) begin(x *api.Expr) { e.tasks = append(e.tasks, task{x: x}) }

func (e *evaluator) push(v api.Value) { e.values = append(e.values, v) }

func (e *evaluator) pop() api.Value { return e.take(1)[0] }

// take removes the last values. The next ones that are pushed overwrite them.
func (e *evaluator) take(count int) []api.Value {
	rest := len(e.values) - count
	taken := e.values[rest:]
	e.values = e.values[:rest]
	return taken
}

// step goes on with the innermost task.
func (e *evaluator) step() {
	last := len(e.tasks) - 1
	t := e.tasks[last]
	switch {
	case t.x == nil:
		e.tasks, e.frames = e.tasks[:last], e.frames[:len(e.frames)-1]
	case t.done < countFirst(t.x):
		e.tasks[last].done++
		e.begin(&t.x.Kids[t.done])
	default:
		e.tasks = e.tasks[:last]
		e.finish(t.x)
	}
}

// countFirst returns the number of Kids that are evaluated before anything depends on their values.
func countFirst(x *api.Expr) int {
	switch x.Op {
	case api.XMatch, api.XIf, api.XAnd, api.XOr, api.XLet:
		return 1
	}
	return len(x.Kids)
}

// finish pushes the value of an expression whose first Kids have been evaluated, or begins the expression that has the same value.
func (e *evaluator) finish(x *api.Expr) {
	kids := e.take(countFirst(x))
	switch x.Op {
	case api.XMatch:
		e.begin(e.result(x.Kids[1:], kids[0]))
	case api.XIf:
		e.begin(&x.Kids[2-kids[0].N])
	case api.XAnd, api.XOr:
		e.join(x, kids[0])
	case api.XLet:
		e.store(x.N, kids[0])
		e.begin(&x.Kids[1])
	case api.XCall:
		e.call(x.N, slices.Clone(kids))
	case api.XApply:
		e.call(kids[0].N, slices.Concat(kids[0].L, kids[1:]))
	default:
		e.push(e.operate(x, kids))
	}
}

// join goes on with the second operand of XAnd or XOr, unless the first one decides.
func (e *evaluator) join(x *api.Expr, left api.Value) {
	if isTrue(left) == (x.Op == api.XAnd) {
		e.begin(&x.Kids[1])
	} else {
		e.push(left)
	}
}

// result returns the result of the arm of an XMatch for a value.
func (e *evaluator) result(arms []api.Expr, v api.Value) *api.Expr {
	k := slices.IndexFunc(arms, func(arm api.Expr) bool { return e.enter(v, arm.N, arm.M) })
	return &arms[k].Kids[0]
}

// enter reports whether an arm for a constructor is one for a value, and stores the arguments in the slots from the first one on if it is for the constructor alone.
func (e *evaluator) enter(v api.Value, ctor, first int) bool {
	if ctor != v.N {
		return ctor == anyCtor
	}
	for k, argument := range v.L {
		e.store(first+k, argument)
	}
	return true
}

// call begins the body of a function.
func (e *evaluator) call(fun int, args []api.Value) {
	e.use()
	// The first frame is that of no call.
	if len(e.frames) > api.MaxCalls {
		raise(api.FDepth)
	}
	e.frames = append(e.frames, args)
	e.begin(nil)
	e.begin(&e.prog.Funs[fun].Body)
}

// use uses a unit of fuel.
func (e *evaluator) use() {
	if e.used == api.MaxFuel {
		raise(api.FFuel)
	}
	e.used++
}

// slot returns the value of a slot that is bound.
func (e *evaluator) slot(n int) api.Value { return e.frames[len(e.frames)-1][n] }

func (e *evaluator) store(n int, v api.Value) {
	slots := &e.frames[len(e.frames)-1]
	if missing := n + 1 - len(*slots); missing > 0 {
		*slots = append(*slots, make([]api.Value, missing)...)
	}
	(*slots)[n] = v
}
