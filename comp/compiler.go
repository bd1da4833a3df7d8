package comp

import "retroact/api"

// compiler adds instructions to code.
type compiler struct {
	code api.Code
	// constants and names are the indices of those that are in the code.
	constants map[constant]int
	names     map[string]int
}

// constant is what two constants of compiled code, which have neither elements nor an M, may differ in.
type constant struct {
	kind, n int
	t, s    string
}

func newCompiler() *compiler {
	return &compiler{constants: map[constant]int{}, names: map[string]int{}}
}

// add adds an instruction and returns its index.
func (c *compiler) add(op, a, b int) int {
	c.code.Ins = append(c.code.Ins, api.Ins{Op: op, A: a, B: b})
	return len(c.code.Ins) - 1
}

// jump adds an instruction with a target that is not known yet. The function that it returns makes the next instruction its target.
func (c *compiler) jump(op, slot int) func() {
	at := c.add(op, 0, slot)
	return func() { c.code.Ins[at].A = len(c.code.Ins) }
}

// unless is like jump for an instruction that continues at its target unless a value has a constructor.
func (c *compiler) unless(ctor int) func() {
	at := c.add(ICase, ctor, 0)
	return func() { c.code.Ins[at].B = len(c.code.Ins) }
}

// constant returns the index of a constant.
func (c *compiler) constant(v api.Value) int {
	key := constant{kind: v.Kind, n: v.N, t: v.T, s: v.S}
	at, found := c.constants[key]
	if !found {
		at = len(c.code.Consts)
		c.constants[key] = at
		c.code.Consts = append(c.code.Consts, v)
	}
	return at
}

// name returns the index of a name.
func (c *compiler) name(s string) int {
	at, found := c.names[s]
	if !found {
		at = len(c.code.Names)
		c.names[s] = at
		c.code.Names = append(c.code.Names, s)
	}
	return at
}

// entry returns an entry that begins with the next instruction.
func (c *compiler) entry(actor, msg string, params []api.Field, slots int) api.Entry {
	return api.Entry{Actor: actor, Msg: msg, At: len(c.code.Ins), Params: len(params), Slots: slots}
}

func (c *compiler) function(f *api.Fun) {
	c.code.Funs = append(c.code.Funs, c.entry("", "", f.Params, f.Slots))
	c.expression(&f.Body)
	c.add(IReturn, 0, 0)
}

func (c *compiler) actor(a *api.Actor) {
	c.code.Ons = append(c.code.Ons, c.entry(a.Name, "", a.Params, a.Slots))
	for k := range a.Vars {
		c.expression(&a.Vars[k].Init)
	}
	c.add(IInit, len(a.Vars), 0)
	for _, h := range a.On {
		c.code.Ons = append(c.code.Ons, c.entry(a.Name, h.Msg, h.Params, h.Slots))
		c.statements(h.Body)
		c.add(IEnd, 0, 0)
	}
}
