package tests

import (
	"slices"
	"strings"

	"loop.example/g00115/impl"
)

// What Parse answers, found by other means than its own: which token is the first fault by a chart of all that may
// stand there under the chapter's rules, and the tree of a program without a fault by cutting it at its marks.

// rulesOfPrograms: what is first in a line may be what stands behind it. NAME, NUMBER and TEXT are such tokens, FUN is a `fun` that a name follows.
const rulesOfPrograms = `
Program Statements
Statements One
Statements Statements One
One Statement
One If
Statement let NAME = E ;
Statement NAME = E ;
Statement print E ;
Statement while ( E ) Block
Statement return E ;
Statement throw E ;
Statement try Block catch NAME Block
Statement FUN NAME Parameters Block
Statement E ;
If if ( E ) Block
If if ( E ) Block else Block
If if ( E ) Block else If
Block { }
Block { Statements }
Parameters ( )
Parameters ( NAME )
Parameters ( NAME , NAME )
Parameters ( NAME , NAME , NAME )
Parameters ( NAME , NAME , NAME , NAME )
E Ands
E E || Ands
Ands Equals
Ands Ands && Equals
Equals Lessers
Equals Equals == Lessers
Equals Equals != Lessers
Lessers Sums
Lessers Lessers < Sums
Lessers Lessers <= Sums
Lessers Lessers > Sums
Lessers Lessers >= Sums
Sums Products
Sums Sums + Products
Sums Sums - Products
Products Signed
Products Products * Signed
Products Products / Signed
Products Products % Signed
Signed Marked
Signed Call
Marked - Signed
Marked ! Signed
Call First
Call Call ( )
Call Call ( E )
Call Call ( E , E )
Call Call ( E , E , E )
Call Call ( E , E , E , E )
Call Call ( E , E , E , E , E )
Call Call ( E , E , E , E , E , E )
First NUMBER
First TEXT
First true
First false
First none
First NAME
First Bracketed
First Function
Bracketed ( E )
Function fun Parameters Block
`

// countedForDepth: those of which one must not be within 24 others.
const countedForDepth = " Statement If Block Bracketed Marked Function "

// ruleOfPrograms: what it is of, whether that counts for MaxDepth, and the words that it may be.
type ruleOfPrograms struct {
	of      string
	counted bool
	words   []string
}

var allRules = func() []ruleOfPrograms {
	var rules []ruleOfPrograms
	for _, line := range strings.Split(strings.TrimSpace(rulesOfPrograms), "\n") {
		words := strings.Fields(line)
		rules = append(rules, ruleOfPrograms{words[0], strings.Contains(countedForDepth, " "+words[0]+" "), words[1:]})
	}
	return rules
}()

// grammar: the numbers of the rules by the word that they begin with.
var grammar = func() map[string][]int {
	numbers := map[string][]int{}
	for i, rule := range allRules {
		numbers[rule.of] = append(numbers[rule.of], i)
	}
	return numbers
}()

// chartItem: a rule of which the first words stand from a token on; depth is how many counted ones are around it.
type chartItem struct{ rule, done, from, depth int }

func (i chartItem) wants() string {
	if words := allRules[i.rule].words; i.done < len(words) {
		return words[i.done]
	}
	return ""
}

// depthWithin: how many counted ones are around what the item is made of.
func (i chartItem) depthWithin() int {
	if allRules[i.rule].counted {
		return i.depth + 1
	}
	return i.depth
}

// chart: for each number of tokens, all items that may be open or done behind these, and which they are.
type chart struct {
	columns [][]chartItem
	known   []map[chartItem]bool
	// classes are those of the tokens that the columns stand behind.
	classes []string
}

func (c *chart) add(at int, item chartItem) {
	if !c.known[at][item] {
		c.known[at][item] = true
		c.columns[at] = append(c.columns[at], item)
	}
}

// open puts an empty column behind the others.
func (c *chart) open() {
	c.columns, c.known = append(c.columns, nil), append(c.known, map[chartItem]bool{})
}

func (c *chart) begin(at int, of string, depth int) {
	for _, rule := range grammar[of] {
		if depth < 24 || !allRules[rule].counted {
			c.add(at, chartItem{rule: rule, from: at, depth: depth})
		}
	}
}

// fill goes on in a column until nothing more comes of what stands there.
func (c *chart) fill(at int) {
	for i := 0; i < len(c.columns[at]); i++ {
		item := c.columns[at][i]
		if wanted := item.wants(); wanted != "" {
			c.begin(at, wanted, item.depthWithin())
			continue
		}
		for _, outer := range c.columns[item.from] {
			if outer.depthWithin() == item.depth && outer.wants() == allRules[item.rule].of {
				outer.done++
				c.add(at, outer)
			}
		}
	}
}

// classOf: what the rules call a token.
func classOf(token impl.Token) string {
	switch token.Kind {
	case impl.TokenName:
		return "NAME"
	case impl.TokenNumber:
		if token.Num == impl.Infinite {
			return "an infinite number"
		}
		return "NUMBER"
	case impl.TokenText:
		if len(token.Text) > 40 {
			return "a long text"
		}
		return "TEXT"
	}
	return token.Text
}

// lastChart is that of the tokens that were asked for last: what stands behind the same first tokens is the same.
var lastChart chart

func chartBehind(classes []string) *chart {
	c := &lastChart
	same := 0
	for same < min(len(classes), len(c.classes)) && classes[same] == c.classes[same] {
		same++
	}
	if len(c.columns) == 0 {
		c.open()
		c.begin(0, "Program", 0)
		c.fill(0)
	}
	c.columns, c.known, c.classes = c.columns[:same+1], c.known[:same+1], c.classes[:same]
	return c
}

// takes puts the column behind one more token; false when nothing wants that token.
func (c *chart) takes(class string) bool {
	at := len(c.columns)
	c.open()
	for _, item := range c.columns[at-1] {
		if wanted := item.wants(); wanted == class || wanted == "fun" && class == "FUN" {
			item.done++
			c.add(at, item)
		}
	}
	c.fill(at)
	c.classes = append(c.classes, class)
	return len(c.columns[at]) > 0
}

func (c *chart) isProgram() bool {
	last := len(c.columns) - 1
	return slices.ContainsFunc(c.columns[last], func(i chartItem) bool { return allRules[i.rule].of == "Program" && i.wants() == "" })
}

// faultByRule: the place of the first token that nothing in the chart wants; end, when more is wanted there; else -1.
func faultByRule(tokens []impl.Token, end int) int {
	classes := make([]string, len(tokens))
	for at, token := range tokens {
		classes[at] = classOf(token)
		if at > 0 && classes[at] == "NAME" && classes[at-1] == "fun" {
			classes[at-1] = "FUN"
		}
	}
	c := chartBehind(classes)
	for at := range c.classes {
		if len(c.columns[at+1]) == 0 {
			return tokens[at].At
		}
	}
	for at := len(c.classes); at < len(tokens); at++ {
		if !c.takes(classes[at]) {
			return tokens[at].At
		}
	}
	if len(tokens) == 0 || c.isProgram() {
		return -1
	}
	return end
}

// marksByLevel: those that bind the least first.
var marksByLevel = []string{" || ", " && ", " == != ", " < <= > >= ", " + - ", " * / % "}

// opsOfMarks: C of a NodeBinary.
var opsOfMarks = map[string]int{"+": 1, "-": 2, "*": 3, "/": 4, "%": 5, "<": 6, "<=": 7, ">": 8, ">=": 9, "==": 10, "!=": 11}

// cutter makes the tree of tokens in which there is no fault, by finding where each part of it ends.
type cutter struct {
	maker
	tokens []impl.Token
	signs  []string
}

// cutOf: tokens, and for each what it says, which is nothing of names, numbers and texts.
func cutOf(tokens []impl.Token) *cutter {
	c := &cutter{tokens: tokens}
	for _, token := range tokens {
		sign := token.Text
		if token.Kind != impl.TokenMark && token.Kind != impl.TokenWord {
			sign = ""
		}
		c.signs = append(c.signs, sign)
	}
	return c
}

// pairOf: where the bracket that stands at a place is closed, or was opened.
func (c *cutter) pairOf(at int) int {
	step := 1
	if strings.Contains(")}", c.signs[at]) {
		step = -1
	}
	for open := 0; ; at += step {
		switch c.signs[at] {
		case "(", "{":
			open++
		case ")", "}":
			open--
		}
		if open == 0 {
			return at
		}
	}
}

// lastMark: the last of some marks in from .. to that is in no brackets and has a value ahead of it.
func (c *cutter) lastMark(from int, to int, marks string) int {
	for at := to - 1; at > from; at-- {
		if c.signs[at] == ")" || c.signs[at] == "}" {
			at = c.pairOf(at)
		} else if ahead := c.signs[at-1]; c.signs[at] != "" && strings.Contains(marks, " "+c.signs[at]+" ") && (ahead == "" || strings.Contains(" ) } true false none ", " "+ahead+" ")) {
			return at
		}
	}
	return -1
}

func (c *cutter) names(from int, to int) []string {
	var names []string
	for _, token := range c.tokens[from:to] {
		if token.Kind == impl.TokenName {
			names = append(names, token.Text)
		}
	}
	return names
}

func (c *cutter) expression(from int, to int) int {
	for _, marks := range marksByLevel {
		if at := c.lastMark(from, to, marks); at >= 0 {
			a, b := c.expression(from, at), c.expression(at+1, to)
			node := impl.Node{Kind: impl.NodeBinary, A: a, B: b, C: opsOfMarks[c.signs[at]], At: c.tokens[at].At}
			if node.C == 0 {
				node.Kind = map[string]int{"&&": impl.NodeAnd, "||": impl.NodeOr}[c.signs[at]]
			}
			return c.put(node)
		}
	}
	at := c.tokens[from].At
	switch {
	case c.signs[from] == "-":
		return c.put(impl.Node{Kind: impl.NodeMinus, A: c.expression(from+1, to), At: at})
	case c.signs[from] == "!":
		return c.put(impl.Node{Kind: impl.NodeNot, A: c.expression(from+1, to), At: at})
	case c.signs[to-1] == "}":
		return c.function(from, from+1)
	case c.signs[to-1] == ")" && c.pairOf(to-1) == from:
		return c.expression(from+1, to-1)
	case c.signs[to-1] == ")":
		return c.call(from, c.pairOf(to-1))
	}
	return c.leaf(c.tokens[from])
}

func (c *cutter) call(from int, open int) int {
	node := impl.Node{Kind: impl.NodeCall, A: c.expression(from, open), At: c.tokens[open].At}
	end := c.pairOf(open)
	for at := open + 1; at < end; {
		next := at
		for next < end && c.signs[next] != "," {
			if c.signs[next] == "(" || c.signs[next] == "{" {
				next = c.pairOf(next)
			}
			next++
		}
		node.List = append(node.List, c.expression(at, next))
		at = next + 1
	}
	return c.put(node)
}

func (c *cutter) leaf(token impl.Token) int {
	node := impl.Node{Num: token.Num, At: token.At}
	switch token.Kind {
	case impl.TokenNumber:
		node.Kind = impl.NodeNumber
	case impl.TokenText:
		node.Kind, node.Names = impl.NodeText, []string{token.Text}
	case impl.TokenName:
		node.Kind, node.Names = impl.NodeName, []string{token.Text}
	default:
		node.Kind = map[string]int{"true": impl.NodeTrue, "false": impl.NodeFalse, "none": impl.NodeNone}[token.Text]
	}
	return c.put(node)
}

// function: of a `fun`, and its parameters from open on.
func (c *cutter) function(from int, open int) int {
	end := c.pairOf(open)
	body := c.block(end + 1)
	return c.put(impl.Node{Kind: impl.NodeFun, A: body, Names: c.names(open, end), At: c.tokens[from].At})
}

func (c *cutter) block(open int) int {
	node := impl.Node{Kind: impl.NodeBlock, List: c.statements(open+1, c.pairOf(open)), At: c.tokens[open].At}
	return c.put(node)
}

func (c *cutter) statements(from int, to int) []int {
	var list []int
	for from < to {
		var node int
		node, from = c.statement(from)
		list = append(list, node)
	}
	return list
}

// statement: the one that begins at a place, and the place behind it.
func (c *cutter) statement(from int) (int, int) {
	at := c.tokens[from].At
	switch c.signs[from] {
	case "if":
		return c.ifStatement(from)
	case "while":
		open := c.pairOf(from+1) + 1
		asked := c.expression(from+2, open-1)
		return c.put(impl.Node{Kind: impl.NodeWhile, A: asked, B: c.block(open), At: at}), c.pairOf(open) + 1
	case "try":
		caught := c.pairOf(from+1) + 3
		tried := c.block(from + 1)
		return c.put(impl.Node{Kind: impl.NodeTry, A: tried, B: c.block(caught), Names: c.names(caught-1, caught), At: at}), c.pairOf(caught) + 1
	case "fun":
		if c.tokens[from+1].Kind == impl.TokenName {
			fun := c.function(from, from+2)
			return c.put(impl.Node{Kind: impl.NodeLet, A: fun, B: 1, Names: c.names(from+1, from+2), At: at}), c.pairOf(c.pairOf(from+2)+1) + 1
		}
	}
	return c.simple(from)
}

func (c *cutter) ifStatement(from int) (int, int) {
	open := c.pairOf(from+1) + 1
	node := impl.Node{Kind: impl.NodeIf, A: c.expression(from+2, open-1), B: c.block(open), C: -1, At: c.tokens[from].At}
	end := c.pairOf(open) + 1
	if end < len(c.tokens) && c.signs[end] == "else" {
		if c.signs[end+1] == "if" {
			node.C, end = c.ifStatement(end + 1)
		} else {
			node.C, end = c.block(end+1), c.pairOf(end+1)+1
		}
	}
	return c.put(node), end
}

// simple: a statement up to the first `;` that is in no brackets.
func (c *cutter) simple(from int) (int, int) {
	end := from
	for c.signs[end] != ";" {
		if c.signs[end] == "(" || c.signs[end] == "{" {
			end = c.pairOf(end)
		}
		end++
	}
	node := impl.Node{Kind: impl.NodeExpr, At: c.tokens[from].At}
	begin := from + 1
	switch {
	case c.signs[from] == "let":
		node.Kind, node.Names, begin = impl.NodeLet, c.names(from+1, from+2), from+3
	case c.signs[from] == "print":
		node.Kind = impl.NodePrint
	case c.signs[from] == "return":
		node.Kind = impl.NodeReturn
	case c.signs[from] == "throw":
		node.Kind = impl.NodeThrow
	case c.signs[from+1] == "=":
		node.Kind, node.Names, begin = impl.NodeSet, c.names(from, from+1), from+2
	default:
		begin = from
	}
	node.A = c.expression(begin, end)
	return c.put(node), end + 1
}

func parseByRule(source string) ([]impl.Node, int) {
	tokens, fault := impl.Scan(source)
	if fault != -1 {
		return nil, fault
	}
	if fault = faultByRule(tokens, len(source)); fault != -1 {
		return nil, fault
	}
	c := cutOf(tokens)
	c.put(impl.Node{Kind: impl.NodeBlock, List: c.statements(0, len(tokens))})
	return c.tree, -1
}
