package syntax

import (
	"math/rand"
	"regexp"
	"slices"
	"strings"

	"retroact/api"
)

// table is the grammar of the chapter, a line for each form; policies and bindings of spawns are spelt out as forms of their own.
// A quoted word stands for itself, any:.. for one of the words, X* and X+ for any number and for at least one of X,
// and X,* and X,+ for the same separated by commas. lone is an upper name that no "(" follows.
// A line with a kind makes a node: its Text is that of the first token that is not quoted, its N is what is written behind the kind,
// its Kids are the nodes of the symbols in order. A line without a kind makes none of its own.
const table = `
program : decl* -> KProgram
patch : part* -> KProgram
part : decl
part : change
decl : 'record' up '{' field,* '}' -> KRecord
decl : 'variant' up '{' ctor,+ '}' -> KVariant
decl : 'effect' low '(' field,* ')' ':' type -> KEffect
decl : 'fun' low '(' field,* ')' ':' type '=' expr -> KFun
decl : 'actor' up '(' field,* ')' '{' member* '}' -> KActor
decl : 'actor' up '(' field,* ')' 'escalate' '{' member* '}' -> KActor -1
decl : 'actor' up '(' field,* ')' 'restart' int '{' member* '}' -> KActor int+1
member : 'state' low ':' type '=' expr -> KState
member : 'on' up '(' field,* ')' block -> KOn
field : low ':' type -> KField
ctor : up -> KCtor
ctor : up '(' type,+ ')' -> KCtor
type : any:int,bool,text,unit -> KTypeName
type : up -> KTypeName
type : '[' type ']' -> KTypeList
type : 'ref' up -> KTypeRef
type : 'fun' '(' type,* ')' ':' type -> KTypeFun
block : '{' stmt* '}' -> KBlock
stmt : 'let' low '=' expr -> KSLet
stmt : 'let' bound '=' 'spawn' up '(' expr,* ')' -> KSSpawn
stmt : 'let' bound '=' 'spawn' up '(' expr,* ')' 'on' expr -> KSSpawn 1
stmt : unbound 'spawn' up '(' expr,* ')' -> KSSpawn
stmt : unbound 'spawn' up '(' expr,* ')' 'on' expr -> KSSpawn 1
stmt : low '=' expr -> KSSet
stmt : 'if' head block -> KSIf
stmt : 'if' head block 'else' block -> KSIf
stmt : 'match' head '{' sarm+ '}' -> KSMatch
stmt : 'for' low 'in' head block -> KSFor
stmt : send
stmt : 'after' expr send -> KSAfter
stmt : 'do' low '(' expr,* ')' 'then' reply -> KSDo
stmt : 'stop' -> KSStop
stmt : 'fail' expr -> KSFail
send : 'send' expr up '(' expr,* ')' -> KSSend
bound : low -> KBind
unbound : -> KBind _
reply : up -> KMsg
sarm : any:_ block -> KSArm
sarm : up block -> KSArm
sarm : up '(' bind,+ ')' block -> KSArm
arm : any:_ '=>' expr -> KArm
arm : up '=>' expr -> KArm
arm : up '(' bind,+ ')' '=>' expr -> KArm
bind : low -> KBind
bind : any:_ -> KBind
head : expr^
expr : 'let' low '=' expr 'in' expr -> KLet
expr : 'if' expr 'then' expr 'else' expr -> KIf
expr : 'match' head '{' arm,+ '}' -> KMatch
expr : 'fun' '(' field,* ')' ':' type '=' expr -> KLambda
expr : or
or : or any:or and -> KBin
or : and
and : and any:and not -> KBin
and : not
not : 'not' not -> KNot
not : comp
comp : cat any:==,!=,<,<=,>,>= cat -> KBin
comp : cat
cat : cat any:++ sum -> KBin
cat : sum
sum : sum any:+,- prod -> KBin
sum : prod
prod : prod any:*,/,% neg -> KBin
prod : neg
neg : '-' neg -> KNeg
neg : postfix
postfix : postfix '(' expr,* ')' -> KCall
postfix : postfix '.' low -> KGet
postfix : postfix 'with' '{' set,+ '}' -> KWith
postfix : primary
primary : int -> KInt int
primary : string -> KText
primary : 'true' -> KBool 1
primary : 'false' -> KBool
primary : '(' ')' -> KUnit
primary : low -> KName
primary : 'self' -> KSelf
primary : '[' expr,* ']' -> KList
primary : up '{' set,* '}' -> KNew
primary : lone -> KCons
primary : up '(' expr,+ ')' -> KCons
primary : '(' expr ')'
set : low '=' expr -> KSet
change : 'convert' 'type' up '(' field,* ')' '=' expr -> KConvType
change : 'convert' 'type' up '.' ctorname '(' field,* ')' '=' expr -> KConvType 1
change : 'convert' 'actor' up '(' field,* ')' '{' set,* '}' -> KConvActor
change : 'convert' 'message' up '.' msgname '(' field,* ')' '=' msg -> KConvMsg
change : 'move' up 'to' int -> KMove int
change : 'drop' up -> KDrop
ctorname : up -> KName
msgname : up -> KName
msgname : any:init -> KName
msg : up '(' expr,* ')' -> KMsg
msg : any:init '(' expr,* ')' -> KMsg
`

// kindNames are the kinds by their numbers.
var kindNames = map[int]string{
	KProgram: "KProgram", KRecord: "KRecord", KVariant: "KVariant", KEffect: "KEffect", KFun: "KFun", KActor: "KActor",
	KField: "KField", KCtor: "KCtor", KState: "KState", KOn: "KOn", KBlock: "KBlock",
	KTypeName: "KTypeName", KTypeList: "KTypeList", KTypeRef: "KTypeRef", KTypeFun: "KTypeFun",
	KInt: "KInt", KText: "KText", KBool: "KBool", KUnit: "KUnit", KName: "KName", KSelf: "KSelf", KList: "KList", KNew: "KNew",
	KSet: "KSet", KCons: "KCons", KGet: "KGet", KWith: "KWith", KCall: "KCall", KNeg: "KNeg", KNot: "KNot", KBin: "KBin",
	KIf: "KIf", KLet: "KLet", KMatch: "KMatch", KArm: "KArm", KBind: "KBind", KLambda: "KLambda",
	KSLet: "KSLet", KSSet: "KSSet", KSIf: "KSIf", KSMatch: "KSMatch", KSArm: "KSArm", KSFor: "KSFor", KSSend: "KSSend",
	KSAfter: "KSAfter", KSSpawn: "KSSpawn", KSDo: "KSDo", KSStop: "KSStop", KSFail: "KSFail",
	KConvType: "KConvType", KConvActor: "KConvActor", KConvMsg: "KConvMsg", KMove: "KMove", KDrop: "KDrop", KMsg: "KMsg",
}

const (
	reservedWords = "record variant effect fun actor restart escalate state on let in if then else match with and or not true false self for send after spawn do stop fail ref int bool text unit"
	levelNames    = "expr or and not comp cat sum prod neg postfix primary"
)

// rule is a line of the table, or one of those that the lists stand for.
type rule struct {
	left  string
	right []string
	kind  int
	// number is what the line says of N.
	number string
}

// grammar is the table, with the forms of heads, for the models of the parser and of the writer.
type grammar struct {
	rules []rule
	// of are the indices of the rules of a nonterminal.
	of       map[string][]int
	nullable map[string]bool
	// least is the smallest number of tokens of a symbol.
	least map[string]int
	// height is that of the lowest derivation of a symbol.
	height map[string]int
}

var theGrammar = readGrammar()

var isReservedWord = func() map[string]bool {
	m := map[string]bool{}
	for _, s := range strings.Fields(reservedWords) {
		m[s] = true
	}
	return m
}()

func isLevel(s string) bool { return slices.Contains(strings.Fields(levelNames), s) }

func isTerminal(s string) bool {
	return s[0] == '\'' || strings.HasPrefix(s, "any:") || s == "low" || s == "up" || s == "lone" || s == "int" || s == "string"
}

// splitList returns the element of a list, and the sign of the list, which is empty if the symbol is no list.
func splitList(s string) (element, sign string) {
	for _, sign := range []string{",*", ",+", "*", "+"} {
		if element, found := strings.CutSuffix(s, sign); found && !isTerminal(s) {
			return element, sign
		}
	}
	return s, ""
}

func readGrammar() *grammar {
	kinds := map[string]int{}
	for k, name := range kindNames {
		kinds[name] = k
	}
	g := &grammar{of: map[string][]int{}, nullable: map[string]bool{}, least: map[string]int{}, height: map[string]int{}}
	for _, line := range strings.Split(strings.TrimSpace(table), "\n") {
		left, rest, _ := strings.Cut(line, " :")
		form, node, _ := strings.Cut(rest, "->")
		r := rule{left: left, right: strings.Fields(form)}
		if l := strings.Fields(node); len(l) > 0 {
			r.kind = kinds[l[0]]
			r.number = strings.Join(l[1:], "")
		}
		g.add(r)
		if isLevel(left) && r.kind != KNew {
			g.add(inHead(r))
		}
	}
	for changed := true; changed; {
		changed = g.measure()
	}
	return g
}

// inHead returns the rule as it holds in a head, outside of parentheses, brackets and braces.
func inHead(r rule) rule {
	r.left += "^"
	r.right = slices.Clone(r.right)
	depth := 0
	for k, s := range r.right {
		switch {
		case s == "'('" || s == "'['" || s == "'{'":
			depth++
		case s == "')'" || s == "']'" || s == "'}'":
			depth--
		case depth == 0 && isLevel(s):
			r.right[k] += "^"
		}
	}
	return r
}

func (g *grammar) add(r rule) {
	g.of[r.left] = append(g.of[r.left], len(g.rules))
	g.rules = append(g.rules, r)
	for _, s := range r.right {
		if element, sign := splitList(s); sign != "" && g.of[s] == nil {
			g.addList(s, element, sign)
		}
	}
}

func (g *grammar) addList(s, element, sign string) {
	switch sign {
	case "*":
		g.add(rule{left: s})
		g.add(rule{left: s, right: []string{s, element}})
	case "+":
		g.add(rule{left: s, right: []string{element}})
		g.add(rule{left: s, right: []string{s, element}})
	case ",*":
		g.add(rule{left: s})
		g.add(rule{left: s, right: []string{element + ",+"}})
	case ",+":
		g.add(rule{left: s, right: []string{element}})
		g.add(rule{left: s, right: []string{s, "','", element}})
	}
}

// measure finds out more about what the nonterminals derive, and reports whether there was more.
func (g *grammar) measure() bool {
	changed := false
	for _, r := range g.rules {
		least, height, known := g.sizes(r.right)
		if !known {
			continue
		}
		if old, found := g.least[r.left]; !found || least < old {
			g.least[r.left] = least
			g.nullable[r.left] = least == 0
			changed = true
		}
		if old, found := g.height[r.left]; !found || height+1 < old {
			g.height[r.left] = height + 1
			changed = true
		}
	}
	return changed
}

func (g *grammar) sizes(right []string) (least, height int, known bool) {
	for _, s := range right {
		if isTerminal(s) {
			least++
			continue
		}
		n, found := g.least[s]
		if !found {
			return 0, 0, false
		}
		least += n
		height = max(height, g.height[s])
	}
	return least, height, true
}

var (
	lowForm = regexp.MustCompile(`^[a-z][A-Za-z0-9_]*$`)
	upForm  = regexp.MustCompile(`^[A-Z][A-Za-z0-9_]*$`)
)

// fits reports whether a token is one of a terminal. For lone, what follows is not considered.
func fits(terminal string, x api.Token) bool {
	switch terminal {
	case "low":
		return x.Kind == api.TName && lowForm.MatchString(x.Text) && !isReservedWord[x.Text]
	case "up", "lone":
		return x.Kind == api.TName && upForm.MatchString(x.Text)
	case "int":
		return x.Kind == api.TInt && 0 <= x.N && x.N <= api.MaxNum
	case "string":
		return x.Kind == api.TText && len(x.Text) <= api.MaxText
	}
	if x.Kind != api.TName && x.Kind != api.TMark {
		return false
	}
	return slices.Contains(wordsOf(terminal), x.Text)
}

func wordsOf(terminal string) []string {
	if terminal[0] == '\'' {
		return []string{strings.Trim(terminal, "'")}
	}
	return strings.Split(strings.TrimPrefix(terminal, "any:"), ",")
}

// wordToken returns a name or a mark.
func wordToken(word string) api.Token {
	if 'a' <= word[0]|0x20 && word[0]|0x20 <= 'z' {
		return api.Token{Kind: api.TName, Text: word}
	}
	return api.Token{Kind: api.TMark, Text: word}
}

// makes returns the node of a rule that begins at a place, from its tokens in order and its kids.
func (r rule) makes(at int, tokens []api.Token, kids []api.Node) api.Node {
	n := api.Node{Kind: r.kind, At: at, Kids: kids}
	k := 0
	for _, s := range r.right {
		if !isTerminal(s) {
			continue
		}
		switch {
		case s == "int" && r.number == "int":
			n.N = tokens[k].N
		case s == "int":
			n.N = tokens[k].N + 1
		case s[0] != '\'':
			n.Text = tokens[k].Text
		}
		k++
	}
	switch r.number {
	case "1":
		n.N = 1
	case "-1":
		n.N = -1
	case "_":
		n.Text = "_"
	}
	return n
}

// item is a rule of which a number of symbols have been found from a place on.
type item struct{ rule, dot, from int }

// prefix is what the model knows of some tokens: for each place the items that are possible there.
type prefix struct {
	g    *grammar
	sets [][]item
	// last are the items behind the last token: if "(" is not the next one, and if it is.
	last [2][]item
}

func (g *grammar) begin(start string) *prefix {
	p := &prefix{g: g}
	var first []item
	for _, r := range g.of[start] {
		first = append(first, item{r, 0, 0})
	}
	p.last[0] = p.closed(first)
	p.last[1] = p.last[0]
	return p
}

// closed adds all items that follow from some without a further token.
func (p *prefix) closed(set []item) []item {
	here := len(p.sets)
	seen := map[item]bool{}
	var all []item
	add := func(x item) {
		if !seen[x] {
			seen[x] = true
			all = append(all, x)
		}
	}
	for _, x := range set {
		add(x)
	}
	for k := 0; k < len(all); k++ {
		x := all[k]
		r := p.g.rules[x.rule]
		switch {
		case x.dot == len(r.right):
			back := all
			if x.from < here {
				back = p.sets[x.from]
			}
			for _, y := range back {
				if l := p.g.rules[y.rule].right; y.dot < len(l) && l[y.dot] == r.left {
					add(item{y.rule, y.dot + 1, y.from})
				}
			}
		case !isTerminal(r.right[x.dot]):
			s := r.right[x.dot]
			for _, q := range p.g.of[s] {
				add(item{q, 0, here})
			}
			if p.g.nullable[s] {
				add(item{x.rule, x.dot + 1, x.from})
			}
		}
	}
	return all
}

// items returns those that are possible if a token is the next one.
func (p *prefix) items(next api.Token) []item {
	if next.Kind == api.TMark && next.Text == "(" {
		return p.last[1]
	}
	return p.last[0]
}

// allows reports whether the tokens and one more can be continued to a form.
func (p *prefix) allows(next api.Token) bool {
	for _, x := range p.items(next) {
		if r := p.g.rules[x.rule].right; x.dot < len(r) && isTerminal(r[x.dot]) && fits(r[x.dot], next) {
			return true
		}
	}
	return false
}

// with returns what is known with one token more.
func (p *prefix) with(next api.Token) *prefix {
	set := p.items(next)
	q := &prefix{g: p.g, sets: append(slices.Clip(p.sets), set)}
	var open, closed []item
	for _, x := range set {
		r := p.g.rules[x.rule].right
		if x.dot == len(r) || !isTerminal(r[x.dot]) || !fits(r[x.dot], next) {
			continue
		}
		y := item{x.rule, x.dot + 1, x.from}
		open = append(open, y)
		if r[x.dot] != "lone" {
			closed = append(closed, y)
		}
	}
	q.last[0] = q.closed(open)
	q.last[1] = q.last[0]
	if len(open) > len(closed) {
		q.last[1] = q.closed(closed)
	}
	return q
}

// done reports whether the tokens are a form.
func (p *prefix) done() bool {
	for _, x := range p.last[0] {
		r := p.g.rules[x.rule]
		if x.from == 0 && x.dot == len(r.right) && (r.left == "program" || r.left == "patch") {
			return true
		}
	}
	return false
}

// span is a symbol and the places between which it stands.
type span struct {
	symbol   string
	from, to int
}

// trees finds all nodes that tokens stand for, with the places of tokens as offsets.
type trees struct {
	g      *grammar
	tokens []api.Token
	found  map[span][][]api.Node
}

func (g *grammar) trees(start string, tokens []api.Token) []api.Node {
	t := &trees{g, tokens, map[span][][]api.Node{}}
	var l []api.Node
	for _, nodes := range t.of(span{start, 0, len(tokens)}) {
		l = append(l, nodes...)
	}
	return l
}

// of returns the lists of nodes that a symbol makes of the tokens between two places.
func (t *trees) of(x span) [][]api.Node {
	if l, found := t.found[x]; found {
		return l
	}
	var all [][]api.Node
	if isTerminal(x.symbol) {
		if x.to == x.from+1 && fits(x.symbol, t.tokens[x.from]) && (x.symbol != "lone" || !t.isOpen(x.to)) {
			all = [][]api.Node{nil}
		}
	} else {
		for _, k := range t.g.of[x.symbol] {
			r := t.g.rules[k]
			t.split(r, 0, x.from, x.to, nil, nil, func(terminals []api.Token, kids []api.Node) {
				if r.kind == 0 {
					all = append(all, kids)
				} else {
					all = append(all, []api.Node{r.makes(x.from, terminals, kids)})
				}
			})
		}
	}
	t.found[x] = all
	return all
}

func (t *trees) isOpen(k int) bool { return k < len(t.tokens) && fits("'('", t.tokens[k]) }

// split divides the tokens between two places among the symbols of a rule from a dot on, in all ways.
func (t *trees) split(r rule, dot, from, to int, terminals []api.Token, kids []api.Node, found func([]api.Token, []api.Node)) {
	if dot == len(r.right) {
		if from == to {
			found(terminals, slices.Clone(kids))
		}
		return
	}
	s := r.right[dot]
	rest, _, _ := t.g.sizes(r.right[dot+1:])
	least, most := from+t.g.least[s], to-rest
	if isTerminal(s) {
		least, most = from+1, min(from+1, most)
	} else if dot+1 == len(r.right) {
		least = max(least, to)
	}
	for k := least; k <= most; k++ {
		for _, nodes := range t.of(span{s, from, k}) {
			l := terminals
			if isTerminal(s) {
				l = append(slices.Clip(terminals), t.tokens[from])
			}
			t.split(r, dot+1, k, to, l, append(slices.Clip(kids), nodes...), found)
		}
	}
}

// loneMark is the offset by which the model of the writer knows an upper name that no "(" may follow.
const loneMark = -1

// unparsed returns the tokens of a node as a form of a symbol, with parentheses as P8.3 has them.
func (g *grammar) unparsed(symbol string, n api.Node) ([]api.Token, bool) {
	if symbol == "head" {
		l, ok := g.unparsed("expr", n)
		return parenthesized(l), ok
	}
	l, belongs, ok := g.formed(symbol, n)
	if !belongs && isLevel(symbol) {
		l, _, ok = g.formed("expr", n)
		return parenthesized(l), ok
	}
	return l, ok
}

func parenthesized(l []api.Token) []api.Token {
	return slices.Concat([]api.Token{wordToken("(")}, l, []api.Token{wordToken(")")})
}

// formed returns the tokens of a node as a form of a symbol without parentheses around it, and whether its form belongs to the symbol at all.
func (g *grammar) formed(symbol string, n api.Node) (l []api.Token, belongs, ok bool) {
	for _, k := range g.of[symbol] {
		r := g.rules[k]
		if r.kind != 0 {
			if !r.heads(n) {
				continue
			}
			belongs = true
			if l, ok := g.sequence(r, r.right, n, n.Kids); ok {
				return l, true, true
			}
		} else if len(r.right) == 1 {
			l, below, ok := g.formed(r.right[0], n)
			if below {
				return l, true, ok
			}
		}
	}
	return nil, belongs, false
}

// heads reports whether a node has the kind, Text and N of a rule.
func (r rule) heads(n api.Node) bool {
	if n.Kind != r.kind {
		return false
	}
	text := n.Text == ""
	number := n.N == 0
	for _, s := range r.right {
		if s == "int" {
			_, number = r.token(s, n)
		} else if isTerminal(s) && s[0] != '\'' {
			_, text = r.token(s, n)
		}
	}
	switch r.number {
	case "1":
		number = n.N == 1
	case "-1":
		number = n.N == -1
	case "_":
		text = n.Text == "_"
	}
	return text && number
}

// token returns the token of a terminal in a node's form, and reports whether there can be one.
func (r rule) token(terminal string, n api.Node) (api.Token, bool) {
	var x api.Token
	switch {
	case terminal == "int" && r.number == "int+1":
		// The subtraction must not wrap around.
		if n.N < 1 {
			return x, false
		}
		x = api.Token{Kind: api.TInt, N: n.N - 1}
	case terminal == "int":
		x = api.Token{Kind: api.TInt, N: n.N}
	case terminal == "string":
		x = api.Token{Kind: api.TText, Text: n.Text}
	case terminal[0] == '\'':
		x = wordToken(strings.Trim(terminal, "'"))
	case n.Text == "":
		return x, false
	default:
		x = wordToken(n.Text)
	}
	return x, fits(terminal, x)
}

// sequence returns the tokens of the last symbols of a rule for the last kids of a node.
func (g *grammar) sequence(r rule, right []string, n api.Node, kids []api.Node) ([]api.Token, bool) {
	if len(right) == 0 {
		return nil, len(kids) == 0
	}
	s, rest := right[0], right[1:]
	element, sign := splitList(s)
	switch {
	case isTerminal(s):
		x, ok := r.token(s, n)
		if s == "lone" {
			x.At = loneMark
		}
		l, also := g.sequence(r, rest, n, kids)
		return append([]api.Token{x}, l...), ok && also
	case sign != "":
		return g.listed(r, s, rest, n, kids)
	case len(kids) == 0 || !enough(rest, len(kids)-1):
		return nil, false
	}
	l, ok := g.unparsed(element, kids[0])
	if !ok {
		return nil, false
	}
	if k := len(l) - 1; k >= 0 && l[k].At == loneMark && len(rest) > 0 && rest[0] == "'('" {
		l = parenthesized(l)
	}
	more, ok := g.sequence(r, rest, n, kids[1:])
	return append(l, more...), ok
}

// enough reports whether symbols can make a number of nodes.
func enough(right []string, count int) bool {
	lists := false
	for _, s := range right {
		if _, sign := splitList(s); sign != "" {
			lists = true
			if strings.HasSuffix(sign, "+") {
				count--
			}
		} else if !isTerminal(s) {
			count--
		}
	}
	return count == 0 || count > 0 && lists
}

// listed is sequence for a list as the first symbol.
func (g *grammar) listed(r rule, list string, rest []string, n api.Node, kids []api.Node) ([]api.Token, bool) {
	element, sign := splitList(list)
	var l []api.Token
	for count := 0; count <= len(kids); count++ {
		if (count > 0 || !strings.HasSuffix(sign, "+")) && enough(rest, len(kids)-count) {
			if more, ok := g.sequence(r, rest, n, kids[count:]); ok {
				return append(l, more...), true
			}
		}
		if count == len(kids) {
			break
		}
		x, ok := g.unparsed(element, kids[count])
		if !ok {
			return nil, false
		}
		if count > 0 && sign[0] == ',' {
			l = append(l, wordToken(","))
		}
		l = append(l, x...)
	}
	return nil, false
}

// modelTokens returns what the chapter says that Tokens returns, and what Right does.
func modelTokens(n api.Node) ([]api.Token, bool) {
	if depthOf(n) > api.MaxNest {
		return nil, false
	}
	l, ok := theGrammar.unparsed("patch", n)
	if !ok {
		return nil, false
	}
	for k := range l {
		l[k].At = 0
	}
	return l, true
}

// depthOf returns the depth of the deepest node.
func depthOf(n api.Node) int {
	depth := 0
	for _, kid := range n.Kids {
		depth = max(depth, depthOf(kid)+1)
	}
	return depth
}

// grower makes arbitrary sequences of tokens together with their trees.
type grower struct {
	*rand.Rand
	tokens []api.Token
	// lone are the places of upper names that no "(" may follow.
	lone []int
	// room is how many nodes may be added before the smallest forms are taken.
	room int
}

// grow returns tokens and their tree, with the places of tokens as offsets.
func (g *grower) grow(start string, room int) ([]api.Token, api.Node) {
	for {
		g.tokens, g.lone, g.room = nil, nil, room
		n := g.nodes(start)[0]
		if !slices.ContainsFunc(g.lone, func(k int) bool { return k+1 < len(g.tokens) && fits("'('", g.tokens[k+1]) }) {
			return g.tokens, n
		}
	}
}

func (g *grower) nodes(symbol string) []api.Node {
	if isTerminal(symbol) {
		if symbol == "lone" {
			g.lone = append(g.lone, len(g.tokens))
		}
		g.tokens = append(g.tokens, g.sample(symbol))
		return nil
	}
	r := theGrammar.rules[g.choice(symbol)]
	at := len(g.tokens)
	if r.kind != 0 {
		g.room--
	}
	var terminals []api.Token
	var kids []api.Node
	for _, s := range r.right {
		k := len(g.tokens)
		kids = append(kids, g.nodes(s)...)
		if isTerminal(s) {
			terminals = append(terminals, g.tokens[k])
		}
	}
	if r.kind == 0 {
		return kids
	}
	return []api.Node{r.makes(at, terminals, kids)}
}

func (g *grower) choice(symbol string) int {
	l := theGrammar.of[symbol]
	if g.room > 0 {
		return l[g.Intn(len(l))]
	}
	best := l[0]
	for _, k := range l {
		_, height, _ := theGrammar.sizes(theGrammar.rules[k].right)
		if _, lowest, _ := theGrammar.sizes(theGrammar.rules[best].right); height < lowest {
			best = k
		}
	}
	return best
}

func (g *grower) sample(terminal string) api.Token {
	one := func(l ...string) string { return l[g.Intn(len(l))] }
	switch terminal {
	case "low":
		return wordToken(one("a", "b", "x1", "y_Z", "convert", "type", "message", "move", "to", "drop", "init", "ifs", "selfish", "tex"))
	case "up", "lone":
		return wordToken(one("A", "B", "Main", "C_3x", "If", "Int", "Init"))
	case "int":
		return api.Token{Kind: api.TInt, N: []int{0, 1, 2, 47, api.MaxNum}[g.Intn(5)]}
	case "string":
		return api.Token{Kind: api.TText, Text: one("", "s", "(", "if", "_", "a \"b\"\n\t\\", "// no comment", "\xff\x00")}
	}
	return wordToken(one(wordsOf(terminal)...))
}
