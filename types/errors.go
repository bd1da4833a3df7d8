package types

import (
	"slices"

	"retroact/api"
	"retroact/syntax"
)

const (
	// root is the name of the actor type that every program must have.
	root = "Main"
	// maxRestarts is the largest number of restarts that an actor type may allow.
	maxRestarts = 100
)

// check looks for one error in declarations that belong to a right tree. If it follows others in a list, none of theirs is there.
type check struct {
	e api.Errno
	// wrong returns the offsets of the nodes with that error, in pre-order.
	wrong func(l []api.Node) []int
}

// checks are those of P9.5 of shared/doc/09-types.md, in their order.
func checks() []check {
	return []check{
		{api.ErrTwice, repeatedNames},
		{api.ErrName, undeclaredNames},
		{api.ErrType, unstorableTypes},
		{api.ErrRange, restartsOutOfRange},
		{api.ErrLoop, endlessTypes},
		{api.ErrNone, missingRoot},
		{api.ErrType, rootWithParameters},
	}
}

// names are those of one sort that have been declared.
type names map[string]bool

// namesOf returns the names of the nodes of some kinds.
func namesOf(l []api.Node, kinds ...int) names {
	found := names{}
	for _, n := range l {
		if slices.Contains(kinds, n.Kind) {
			found[n.Text] = true
		}
	}
	return found
}

// collector declares the names of nodes in pre-order.
type collector struct {
	types, ctors, effects, funs names
	// repeated are the offsets of the nodes whose name had been declared before.
	repeated []int
}

func repeatedNames(l []api.Node) []int {
	primitives := names{"len": true, "at": true, "put": true, "slice": true, "size": true, "sub": true, "show": true}
	c := &collector{types: names{}, ctors: names{}, effects: names{}, funs: primitives}
	for _, n := range l {
		c.declaration(n)
		c.parts(n)
	}
	return c.repeated
}

func (c *collector) declare(n api.Node, among names) {
	if among[n.Text] {
		c.repeated = append(c.repeated, n.At)
	}
	among[n.Text] = true
}

func (c *collector) declaration(n api.Node) {
	switch n.Kind {
	case syntax.KRecord:
		c.declare(n, c.types)
		c.declare(n, c.ctors)
	case syntax.KVariant, syntax.KActor:
		c.declare(n, c.types)
	case syntax.KEffect:
		c.declare(n, c.effects)
	case syntax.KFun:
		c.declare(n, c.funs)
	}
}

// parts declares the names of the parts of a declaration or handler.
func (c *collector) parts(n api.Node) {
	fields, states, handlers := names{}, names{}, names{}
	for _, kid := range n.Kids {
		switch kid.Kind {
		case syntax.KCtor:
			c.declare(kid, c.ctors)
		case syntax.KField:
			c.declare(kid, fields)
		case syntax.KState:
			c.declare(kid, states)
		case syntax.KOn:
			c.declare(kid, handlers)
			c.parts(kid)
		}
	}
}

func undeclaredNames(l []api.Node) []int {
	types, actors := namesOf(l, syntax.KRecord, syntax.KVariant), namesOf(l, syntax.KActor)
	var at []int
	var visit func(n api.Node)
	visit = func(n api.Node) {
		noType := n.Kind == syntax.KTypeName && isUpper(n.Text) && !types[n.Text]
		noActor := n.Kind == syntax.KTypeRef && !actors[n.Text]
		if noType || noActor {
			at = append(at, n.At)
		}
		for _, kid := range n.Kids {
			visit(kid)
		}
	}
	for _, n := range l {
		for _, node := range typeNodes(n) {
			visit(node)
		}
	}
	return at
}

func unstorableTypes(l []api.Node) []int {
	var at []int
	for _, n := range l {
		if n.Kind == syntax.KFun {
			continue
		}
		for _, node := range typeNodes(n) {
			if !Storable(typeOf(node)) {
				at = append(at, node.At)
			}
		}
	}
	return at
}

// typeNodes returns the nodes of the types in a declaration or a part of one, but not those of the types within these types, and none of an expression or a block.
func typeNodes(n api.Node) []api.Node {
	switch n.Kind {
	case syntax.KTypeName, syntax.KTypeList, syntax.KTypeRef, syntax.KTypeFun:
		return []api.Node{n}
	case syntax.KRecord, syntax.KVariant, syntax.KEffect, syntax.KFun, syntax.KActor,
		syntax.KField, syntax.KCtor, syntax.KState, syntax.KOn:
		var l []api.Node
		for _, kid := range n.Kids {
			l = append(l, typeNodes(kid)...)
		}
		return l
	}
	return nil
}

func restartsOutOfRange(l []api.Node) []int {
	var at []int
	for _, n := range l {
		p, most := policy(n.N)
		if n.Kind == syntax.KActor && p == api.PoRestart && (most < 1 || most > maxRestarts) {
			at = append(at, n.At)
		}
	}
	return at
}

func endlessTypes(l []api.Node) []int {
	finite := finiteTypes(program(l).Types)
	var at []int
	for _, n := range l {
		isType := n.Kind == syntax.KRecord || n.Kind == syntax.KVariant
		if isType && !finite[n.Text] {
			at = append(at, n.At)
		}
	}
	return at
}

func missingRoot(l []api.Node) []int {
	if namesOf(l, syntax.KActor)[root] {
		return nil
	}
	return []int{0}
}

func rootWithParameters(l []api.Node) []int {
	var at []int
	for _, n := range l {
		if n.Kind == syntax.KActor && n.Text == root && len(fields(n)) > 0 {
			at = append(at, n.At)
		}
	}
	return at
}
