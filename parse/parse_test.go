package parse_test

import (
	"fmt"
	"math/big"
	"slices"
	"strings"
	"testing"
	"unsafe"

	"retrospect/api"
	"retrospect/parse"
	"retrospect/tree"
)

type (
	node  = tree.Node
	let   = tree.Let
	field = tree.Field
)

// As the document names them.
const (
	maxText   = 4000
	maxDigits = 60
	maxName   = 12
	maxDepth  = 40
)

var none = api.Fault{}

func parseAt(place int) api.Fault { return api.Fault{Kind: 1, At: place} }

// digits are n without a pattern; the first one is no nought.
func digits(n int) string {
	return strings.Repeat("31415926535897932384626433832795", n/32+1)[:n]
}

// letters are n bytes of a name: its neighbours, and those some few places on, are others.
func letters(n int) string {
	return strings.Repeat("kX_7wQ0vf9Zt_3", n/14+1)[:n]
}

func times(n int, s string) string { return strings.Repeat(s, n) }

// The operations, as the document numbers them.
var marks = map[int]string{2: "t", 3: "y", 4: "p", 5: "l", 6: "~", 7: "+", 8: "-", 9: "*", 10: "/", 11: "^"}

// shown is a node in short: a number as its digits, -a as ~, the second let as l1, a^-2 as ^-2; a node that has anything besides is shown as it stands.
func shown(n node) string {
	switch {
	case n.Op == 1 && n.I == 0 && (len(n.N) == 0 || n.N[len(n.N)-1] != 0):
		value := new(big.Int)
		for i := len(n.N) - 1; i >= 0; i-- {
			value.Add(value.Lsh(value, 32), big.NewInt(int64(n.N[i])))
		}
		return value.String()
	case len(n.N) > 0:
	case 3 <= n.Op && n.Op <= 5 || n.Op == 11:
		return fmt.Sprint(marks[n.Op], n.I)
	case marks[n.Op] != "" && n.I == 0:
		return marks[n.Op]
	}
	return fmt.Sprint("!", n)
}

func shownCode(code []node) string {
	var l []string
	for _, n := range code {
		l = append(l, shown(n))
	}
	return strings.Join(l, " ")
}

// shownField is, of let a = t + 1; [a, -a], a: t 1 +; [l0, l0 ~].
func shownField(f field) string {
	var s strings.Builder
	for _, l := range f.Lets {
		s.WriteString(l.Name + ": " + shownCode(l.Code) + "; ")
	}
	var outs []string
	for _, out := range f.Outs {
		outs = append(outs, shownCode(out))
	}
	return s.String() + "[" + strings.Join(outs, ", ") + "]"
}

func checkField(t *testing.T, s, want string) {
	t.Helper()
	if got, fault := parse.Parse(s); fault != none || shownField(got) != want {
		t.Fatalf("Parse(%q): %s, %v; want %s", s, shownField(got), fault, want)
	}
}

// checkNoField asks for what stands beside a fault, too.
func checkNoField(t *testing.T, s string, place int) {
	t.Helper()
	if got, fault := parse.Parse(s); fault != parseAt(place) || len(got.Lets) != 0 || len(got.Outs) != 0 {
		t.Fatalf("Parse(%q): %s, %v; want none, %v", s, shownField(got), fault, parseAt(place))
	}
}

func checkExpr(t *testing.T, s, want string, names ...string) {
	t.Helper()
	if got, fault := parse.Expr(s, names...); fault != none || shownCode(got) != want {
		t.Fatalf("Expr(%q, %q): %s, %v; want %s", s, names, shownCode(got), fault, want)
	}
}

func checkNoExpr(t *testing.T, s string, place int, names ...string) {
	t.Helper()
	if got, fault := parse.Expr(s, names...); fault != parseAt(place) || len(got) != 0 {
		t.Fatalf("Expr(%q, %q): %s, %v; want none, %v", s, names, shownCode(got), fault, parseAt(place))
	}
}

// checkOne asks Expr, and Parse of fields in which s stands as a let's expression, as the one out, and as one of many.
func checkOne(t *testing.T, s, want string) {
	t.Helper()
	checkExpr(t, s, want)
	checkField(t, "["+s+"\n]", "["+want+"]")
	checkField(t, "let zz = "+s+"\n; [1, "+s+"\n, t]", "zz: "+want+"; [1, "+want+", t]")
}

// checkNone is likewise of what is no expr; where s just ends too early, or is followed by what a field may go on with, the fault stands elsewhere.
func checkNone(t *testing.T, s string, place int) {
	t.Helper()
	checkNoExpr(t, s, place)
	for _, c := range []struct{ ahead, behind, on string }{{"[", "\n]", ",]"}, {"let zz = ", "\n; [1]", ";"}, {"let zz = t; [1, ", "\n, t]", ",]"}} {
		at := place
		if place == len(s) {
			if c.behind == "\n]" && strings.Count(s, "[") > strings.Count(s, "]") {
				continue
			}
			at++
		} else if strings.Contains(c.on, s[place:place+1]) {
			continue
		}
		checkNoField(t, c.ahead+s+c.behind, len(c.ahead)+at)
	}
}

// rules are the chapter's language. What may come or not, and what may come more than once, has rules of its own; ( and - that open a level are told apart from other words, and close is where such a level ends.
var rules = map[string][]string{
	"field":    {"let name = expr ; field", "[ expr outs"},
	"outs":     {", expr outs", "]"},
	"expr":     {"term terms"},
	"terms":    {"+ term terms", "- term terms", ""},
	"term":     {"factor factors"},
	"factors":  {"* factor factors", "/ factor factors", ""},
	"factor":   {"open- factor close", "power"},
	"power":    {"atom raised"},
	"raised":   {"^ exponent", ""},
	"exponent": {"small", "- small"},
	"atom":     {"number", "t", "y [ small ]", "p [ small ]", "name", "open( expr ) close"},
}

// hope is a way in which words may go on: the symbols that are to come, and how many levels are open.
type hope struct {
	rest   string
	levels int
}

// ready tells the ways that begin with a word, or that end here.
func ready(hopes []hope) []hope {
	var l []hope
	for len(hopes) > 0 {
		h := hopes[len(hopes)-1]
		hopes = hopes[:len(hopes)-1]
		symbol, rest, _ := strings.Cut(h.rest, " ")
		if symbol == "close" {
			hopes = append(hopes, hope{rest, h.levels - 1})
		} else if rules[symbol] == nil {
			l = append(l, h)
		}
		for _, way := range rules[symbol] {
			hopes = append(hopes, hope{strings.Trim(way+" "+rest, " "), h.levels})
		}
	}
	return l
}

// after tells the ways on behind the word w; ways are ready.
func after(ways []hope, w string) []hope {
	var l []hope
	for _, h := range ways {
		symbol, rest, _ := strings.Cut(h.rest, " ")
		switch {
		case symbol == "open(" && w == "(" || symbol == "open-" && w == "-":
			if h.levels < maxDepth {
				l = append(l, hope{rest, h.levels + 1})
			}
		case symbol == w && rules[w] == nil && w != "number" && w != "small" && w != "name":
			l = append(l, hope{rest, h.levels})
		case symbol == "number" && isNumber(w), symbol == "small" && isNumber(w) && len(w) <= 3, symbol == "name" && isName(w):
			l = append(l, hope{rest, h.levels})
		}
	}
	return l
}

func isNumber(w string) bool { return '0' <= w[0] && w[0] <= '9' }

func isName(w string) bool {
	letter := 'a' <= w[0] && w[0] <= 'z' || 'A' <= w[0] && w[0] <= 'Z' || w[0] == '_'
	return letter && !slices.Contains([]string{"t", "y", "p", "let"}, w)
}

func mayEnd(ways []hope) bool {
	return slices.ContainsFunc(ways, func(h hope) bool { return h.rest == "" })
}

// stuck tells the place in words of the first one that can't stand there; how many there are, if it's the end; -1, if there is none.
func stuck(words []string, start string) int {
	ways := ready([]hope{{start, 0}})
	for i, w := range words {
		ways = ready(after(ways, w))
		if len(ways) == 0 {
			return i
		}
	}
	if !mayEnd(ways) {
		return len(words)
	}
	return -1
}

// piece is a row of words that is read as one, from the word at the place from on.
type piece struct{ from, behind int }

// meaning is what the words of an expr mean: it is cut at the last of the operations that are done last. It notes what is read as one.
func meaning(words, names []string, from int, pieces *[]piece) []node {
	*pieces = append(*pieces, piece{from, from + len(words)})
	part := func(i, j int) []node { return meaning(words[i:j], names, from+i, pieces) }
	for _, cut := range []struct{ signs, ops string }{{"+-", "\x07\x08"}, {"*/", "\x09\x0a"}} {
		for i := range slices.Backward(words) {
			which := strings.Index(cut.signs, words[i])
			if which >= 0 && i > 0 && outside(words[:i]) && endsOperand(words[i-1]) {
				return append(append(part(0, i), part(i+1, len(words))...), node{Op: int(cut.ops[which])})
			}
		}
	}
	if words[0] == "-" {
		return append(part(1, len(words)), node{Op: 6})
	}
	for i := range words {
		if words[i] == "^" && outside(words[:i]) {
			return append(part(0, i), node{Op: 11, I: number(strings.Join(words[i+1:], ""))})
		}
	}
	switch words[0] {
	case "(":
		return part(1, len(words)-1)
	case "t":
		return []node{{Op: 2}}
	case "y":
		return []node{{Op: 3, I: number(words[2])}}
	case "p":
		return []node{{Op: 4, I: number(words[2])}}
	}
	if isNumber(words[0]) {
		return []node{constant(words[0])}
	}
	return []node{{Op: 5, I: slices.Index(names, words[0])}}
}

func outside(words []string) bool {
	open := 0
	for _, w := range words {
		switch w {
		case "(", "[":
			open++
		case ")", "]":
			open--
		}
	}
	return open == 0
}

func endsOperand(w string) bool { return w == ")" || w == "]" || isNumber(w) || isName(w) || w == "t" }

func number(s string) int {
	value, _ := new(big.Int).SetString(s, 10)
	return int(value.Int64())
}

func constant(s string) node {
	n := node{Op: 1}
	value, _ := new(big.Int).SetString(s, 10)
	for ; value.Sign() > 0; value.Rsh(value, 32) {
		n.N = append(n.N, uint32(value.Uint64()))
	}
	return n
}

// fieldMeaning is what the words of a field mean.
func fieldMeaning(words []string, pieces *[]piece) field {
	var f field
	var names []string
	from := 0
	for words[from] == "let" {
		behind := from + slices.Index(words[from:], ";")
		f.Lets = append(f.Lets, let{Name: words[from+1], Code: meaning(words[from+3:behind], names, from+3, pieces)})
		names = append(names, words[from+1])
		from = behind + 1
	}
	from++
	for from < len(words) {
		behind := from
		for words[behind] != "," && !(words[behind] == "]" && outside(words[from:behind])) {
			behind++
		}
		f.Outs = append(f.Outs, meaning(words[from:behind], names, from, pieces))
		from = behind + 1
	}
	return f
}

// laid is the words as a text, and where they stand there. There are blanks and remarks between, or nothing, where words don't run into one another.
func laid(words []string, seed int) (string, []int) {
	blanks := []string{" ", "", "\n", "", "\t \r", "#let [(\n", "", "  ", "# $\x80\n\n", ""}
	var s strings.Builder
	var places []int
	ahead := ""
	for i, w := range words {
		blank := blanks[(seed+i*7)%len(blanks)]
		if blank == "" && runsInto(ahead, w) {
			blank = " "
		}
		s.WriteString(blank)
		places = append(places, s.Len())
		s.WriteString(w)
		ahead = w
	}
	s.WriteString([]string{"", "", " ", "#", "\n", "# end"}[seed%6])
	return s.String(), append(places, s.Len())
}

func runsInto(a, b string) bool {
	inWord := func(c byte) bool {
		return c == '_' || c >= '0' && c <= '9' || c >= 'A' && c <= 'Z' || c >= 'a' && c <= 'z'
	}
	return a != "" && inWord(a[len(a)-1]) && inWord(b[0])
}

// checkExprWords and checkFieldWords hold the answer against what the chapter says: the fault at the word stuck, or what the words mean.
func checkExprWords(t *testing.T, words []string, wrong, seed int, names ...string) {
	t.Helper()
	s, places := laid(words, seed)
	if wrong >= 0 {
		checkNoExpr(t, s, places[wrong], names...)
		return
	}
	checkExpr(t, s, shownCode(meaning(words, names, 0, new([]piece))), names...)
}

func checkFieldWords(t *testing.T, words []string, wrong, seed int) {
	t.Helper()
	s, places := laid(words, seed)
	if wrong >= 0 {
		checkNoField(t, s, places[wrong])
		return
	}
	checkField(t, s, shownField(fieldMeaning(words, new([]piece))))
}

func TestExamples(t *testing.T) {
	checkField(t, "[-y[0] + 2*t]", "[y0 ~ 2 t * +]")
	checkNoField(t, "[1", 2)
	checkNoField(t, "[2^3^2]", 4)
	checkField(t, "let a = t + 1; [a * a]", "a: t 1 +; [l0 l0 *]")
	checkField(t, "[y[0] * (1 - y[0])]", "[y0 1 y0 - *]")
	checkField(t, "[1 / t]", "[1 t /]")
	checkField(t, "[y[0] * p[0]]", "[y0 p0 *]")
}

func TestNodesHaveTheNumbersOfTheOperations(t *testing.T) {
	got, fault := parse.Expr("((0 + t - y[3] * p[4] / a) + 4294967296)^-5 - -b", "b")
	want := []node{
		{Op: 1}, {Op: 2}, {Op: 7}, {Op: 3, I: 3}, {Op: 4, I: 4}, {Op: 9}, {Op: 5, I: -1}, {Op: 10}, {Op: 8},
		{Op: 1, N: []uint32{0, 1}}, {Op: 7}, {Op: 11, I: -5}, {Op: 5}, {Op: 6}, {Op: 8},
	}
	same := func(a, b node) bool { return a.Op == b.Op && a.I == b.I && slices.Equal(a.N, b.N) }
	if fault != none || !slices.EqualFunc(got, want, same) {
		t.Fatalf("%v, %v; want %v", got, fault, want)
	}
}

func TestFieldTable(t *testing.T) {
	for _, c := range []struct{ s, want string }{
		{"[1]", "[1]"},
		{"[t]", "[t]"},
		{" [ t ] ", "[t]"},
		{"#\n[#\nt#\n]#", "[t]"},
		{"[1,t]", "[1, t]"},
		{"[t,t,t,t,t,t,t,t]", "[t, t, t, t, t, t, t, t]"},
		{"[" + times(300, "1,") + "2]", "[" + times(300, "1, ") + "2]"},
		{"[y[0],p[0]]", "[y0, p0]"},
		{"[(1),-(t)]", "[1, t ~]"},
		// Lets, and the names that they give.
		{"let a=1;[a]", "a: 1; [l0]"},
		{"let a=1;[t]", "a: 1; [t]"},
		{"let a=1;let b=2;[b,a]", "a: 1; b: 2; [l1, l0]"},
		{"let a=1;let b=a;let c=b+a;[c]", "a: 1; b: l0; c: l1 l0 +; [l2]"},
		{"let\ta\n=\r1 ; # a is 1\n[a]", "a: 1; [l0]"},
		// A name of which there is no let, of which it comes later, and a let's own.
		{"[a]", "[l-1]"},
		{"[a, b]", "[l-1, l-1]"},
		{"let a=a;[a]", "a: l-1; [l0]"},
		{"let a=b;let b=1;[a+b]", "a: l-1; b: 1; [l0 l1 +]"},
		{"let a=1+a*a;[b]", "a: 1 l-1 l-1 * +; [l-1]"},
		// Of two lets with one name the first one is meant, but not within itself.
		{"let a=1;let a=2;[a]", "a: 1; a: 2; [l0]"},
		{"let a=1;let a=a;[a]", "a: 1; a: l0; [l0]"},
		{"let a=a;let a=a;let a=a;[a]", "a: l-1; a: l0; a: l0; [l0]"},
		{"let b=1;let a=2;let b=b;let a=a;[a,b]", "b: 1; a: 2; b: l0; a: l1; [l1, l0]"},
		// What may be names though they look like other words.
		{"let T=1;let Y=2;let P=3;let Let=4;let LET=5;[T+Y+P+Let+LET]", "T: 1; Y: 2; P: 3; Let: 4; LET: 5; [l0 l1 + l2 + l3 + l4 +]"},
		{"let tt=1;let t0=2;let t_=3;let _t=4;[_t,t_,t0,tt]", "tt: 1; t0: 2; t_: 3; _t: 4; [l3, l2, l1, l0]"},
		{"let lets=1;let le=2;let let1=3;let _let=4;[lets,le,let1,_let]", "lets: 1; le: 2; let1: 3; _let: 4; [l0, l1, l2, l3]"},
		{"let yp=1;let y0=2;let p0=3;[y0,p0,yp]", "yp: 1; y0: 2; p0: 3; [l1, l2, l0]"},
		{"let _=1;let __=2;[_,__]", "_: 1; __: 2; [l0, l1]"},
		{"let a=1;let A=2;[A,a]", "a: 1; A: 2; [l1, l0]"},
		{"let a=1;let aa=2;let a_=3;let a1=4;[a1,a_,aa,a]", "a: 1; aa: 2; a_: 3; a1: 4; [l3, l2, l1, l0]"},
		{"let " + letters(12) + "=1;let " + letters(11) + "=2;[" + letters(11) + "," + letters(12) + "]", letters(12) + ": 1; " + letters(11) + ": 2; [l1, l0]"},
	} {
		checkField(t, c.s, c.want)
	}
}

func TestNoFieldTable(t *testing.T) {
	for _, c := range []struct {
		s     string
		place int
	}{
		// No field begins so.
		{"", 0}, {" ", 1}, {"\n\t\r ", 4}, {"#", 1}, {"# [1]", 5}, {" # [1]\n ", 8},
		{"1", 0}, {"t", 0}, {"y", 0}, {"y[0]", 0}, {"p[0]", 0}, {"a", 0}, {" a", 1}, {"-1", 0}, {"(1)", 0}, {"([1])", 0}, {")", 0}, {"]", 0}, {",", 0}, {";", 0}, {"=", 0}, {"+", 0}, {"*", 0}, {"/", 0}, {"^", 0}, {"Let a = 1; [a]", 0}, {"lets a = 1; [a]", 0},
		// Outs: none, a comma too many, none between two.
		{"[", 1}, {"[]", 1}, {"[ ]", 2}, {"[,]", 1}, {"[,1]", 1}, {"[1,]", 3}, {"[1, ]", 4}, {"[1,,t]", 3}, {"[1 , , t]", 5}, {"[1 t]", 3}, {"[1 2]", 3}, {"[a b]", 3}, {"[y[0] y[1]]", 6}, {"[(1)(2)]", 4}, {"[1;]", 2}, {"[1;2]", 2}, {"[1=1]", 2}, {"[a=1]", 2}, {"[let a=1;a]", 1}, {"[1,let]", 3},
		// No bracket at the end, or another one.
		{"[1", 2}, {"[1 ", 3}, {"[1 #]", 5}, {"[1\n#", 4}, {"[1,t", 4}, {"[1,", 3}, {"[y[0]", 5}, {"[y[0", 4}, {"[y[", 3}, {"[y", 2}, {"[1)", 2}, {"[(1]", 3}, {"[(1", 3}, {"[-", 2}, {"[1+", 3}, {"[1^", 3}, {"[1^-", 4},
		// Words behind the last bracket.
		{"[1]]", 3}, {"[1] ]", 4}, {"[1],", 3}, {"[1];", 3}, {"[1] t", 4}, {"[1]1", 3}, {"[1][t]", 3}, {"[1]+1", 3}, {"[1]-1", 3}, {"[1]^2", 3}, {"[1](", 3}, {"[1])", 3}, {"[1]let a=1;", 3}, {"[1] # x\n t", 9}, {"[y[0]][0]", 6},
		// Two brackets of outs, one within the other.
		{"[[1]]", 1}, {"[1,[t]]", 3}, {"[([1])]", 2},
		// A let without its name, its sign, its expression, its semicolon.
		{"let", 3}, {"let ", 4}, {"let =1;[t]", 4}, {"let 1=1;[t]", 4}, {"let 1a=1;[t]", 4}, {"let;[t]", 3}, {"let[t]", 3}, {"let -a=1;[t]", 4}, {"let (a)=1;[t]", 4},
		{"let a", 5}, {"let a 1;[t]", 6}, {"let a;[t]", 5}, {"let a[t]", 5}, {"let a b=1;[t]", 6}, {"let a,b=1;[t]", 5}, {"let a+1=1;[t]", 5}, {"let a-=1;[t]", 5}, {"let a:=1", 5},
		{"let a=", 6}, {"let a=;[t]", 6}, {"let a= ;[t]", 7}, {"let a==1;[t]", 6}, {"let a=[t]", 6}, {"let a=[1];[t]", 6}, {"let a=let b=1;[t]", 6}, {"let a=,;[t]", 6}, {"let a=);[t]", 6},
		{"let a=1", 7}, {"let a=1[t]", 7}, {"let a=1,2;[t]", 7}, {"let a=1,[t]", 7}, {"let a=1)[t]", 7}, {"let a=1=1;[t]", 7}, {"let a=1 b=2;[t]", 8}, {"let a=1 let b=2;[t]", 8}, {"let a=1]", 7}, {"let a=(1;[t]", 8}, {"let a=b[0];[t]", 7},
		{"let a=1;", 8}, {"let a=1; ", 9}, {"let a=1;;[t]", 8}, {"let a=1; ;[t]", 9}, {"let a=1;t", 8}, {"let a=1;b=2;[t]", 8}, {"let a=1;]", 8}, {"let a=1;let", 11}, {"let a=1;let [t]", 12}, {"let a=1;let b;[t]", 13}, {"let a=1;(t)", 8}, {"let a=1;[]", 9}, {"let a=1;[a", 10}, {"let a=1;[a]let b=1;[b]", 11}, {"let a=1;[a];", 11},
		// A let whose name is none, though it is a name-word.
		{"let t=1;[t]", 4}, {"let y=1;[t]", 4}, {"let p=1;[t]", 4}, {"let let=1;[t]", 4}, {"let let let=1;[t]", 4}, {"let y[0]=1;[t]", 4}, {"let  t = 1; [t]", 5}, {"let a=1;let t=1;[t]", 12}, {"let t", 4}, {"let y", 4}, {"let let", 4},
	} {
		checkNoField(t, c.s, c.place)
	}
}

func TestExprTable(t *testing.T) {
	for _, c := range []struct{ s, want string }{
		// What stands alone.
		{"1", "1"}, {"t", "t"}, {"y[0]", "y0"}, {"p[0]", "p0"}, {"a", "l-1"}, {" 1", "1"}, {"1 ", "1"}, {"# 2\n1 # 3", "1"},
		// A - ahead of a number, a name, a bracket, another -, a power.
		{"-1", "1 ~"}, {"-0", "0 ~"}, {"-t", "t ~"}, {"-a", "l-1 ~"}, {"-y[1]", "y1 ~"}, {"-p[1]", "p1 ~"}, {"-(1)", "1 ~"}, {"(-1)", "1 ~"}, {"--1", "1 ~ ~"}, {"---t", "t ~ ~ ~"}, {"- - 1", "1 ~ ~"}, {"-(-1)", "1 ~ ~"}, {"-(1+t)", "1 t + ~"},
		{"-t^2", "t ^2 ~"}, {"(-t)^2", "t ~ ^2"}, {"-(t^2)", "t ^2 ~"}, {"--t^2", "t ^2 ~ ~"}, {"-2^-2", "2 ^-2 ~"}, {"-(t)^2", "t ^2 ~"}, {"-(-t^2)^2", "t ^2 ~ ^2 ~"},
		// A - ahead of one of two.
		{"1+-2", "1 2 ~ +"}, {"1--2", "1 2 ~ -"}, {"1---2", "1 2 ~ ~ -"}, {"1*-2", "1 2 ~ *"}, {"1/-2", "1 2 ~ /"}, {"-1+2", "1 ~ 2 +"}, {"-1-2", "1 ~ 2 -"}, {"-1*2", "1 ~ 2 *"}, {"-1/2", "1 ~ 2 /"}, {"-1*-2", "1 ~ 2 ~ *"}, {"1*-2*3", "1 2 ~ * 3 *"}, {"1*-2+3", "1 2 ~ * 3 +"}, {"-1*2+3", "1 ~ 2 * 3 +"}, {"1*-t^2", "1 t ^2 ~ *"}, {"-t^2*3", "t ^2 ~ 3 *"}, {"--1--1", "1 ~ ~ 1 ~ -"},
		// The left ones first.
		{"1+2", "1 2 +"}, {"1-2", "1 2 -"}, {"1*2", "1 2 *"}, {"1/2", "1 2 /"}, {"1+2+3", "1 2 + 3 +"}, {"1-2-3", "1 2 - 3 -"}, {"1*2*3", "1 2 * 3 *"}, {"1/2/3", "1 2 / 3 /"}, {"1+2-3", "1 2 + 3 -"}, {"1-2+3", "1 2 - 3 +"}, {"1*2/3", "1 2 * 3 /"}, {"1/2*3", "1 2 / 3 *"}, {"1-2-3-4", "1 2 - 3 - 4 -"}, {"1/2/3/4", "1 2 / 3 / 4 /"}, {"1-2+3-4+5", "1 2 - 3 + 4 - 5 +"}, {"1/2*3/4*5", "1 2 / 3 * 4 / 5 *"},
		// * and / ahead of + and -, and ^ ahead of both.
		{"1+2*3", "1 2 3 * +"}, {"1*2+3", "1 2 * 3 +"}, {"1-2/3", "1 2 3 / -"}, {"1/2-3", "1 2 / 3 -"}, {"1*2+3*4", "1 2 * 3 4 * +"}, {"1+2*3+4", "1 2 3 * + 4 +"}, {"1-2*3/4-5", "1 2 3 * 4 / - 5 -"}, {"1+2*3^4", "1 2 3 ^4 * +"}, {"1^2+3", "1 ^2 3 +"}, {"1^2*3", "1 ^2 3 *"}, {"1*2^3", "1 2 ^3 *"}, {"1/2^3/4", "1 2 ^3 / 4 /"}, {"1^2-3^4", "1 ^2 3 ^4 -"}, {"1^2/3^4", "1 ^2 3 ^4 /"},
		// Brackets at the left, at the right, around all, around one.
		{"(1+2)*3", "1 2 + 3 *"}, {"1*(2+3)", "1 2 3 + *"}, {"(1-2)-3", "1 2 - 3 -"}, {"1-(2-3)", "1 2 3 - -"}, {"(1/2)/3", "1 2 / 3 /"}, {"1/(2/3)", "1 2 3 / /"}, {"1+(2+3)", "1 2 3 + +"}, {"1*(2*3)", "1 2 3 * *"}, {"(1+2)*(3+4)", "1 2 + 3 4 + *"}, {"(1)", "1"}, {"((1))", "1"}, {"(((t)))", "t"}, {"(1+2)", "1 2 +"}, {"((1)+(2))", "1 2 +"}, {"(1*2)+3", "1 2 * 3 +"}, {"1+(2*3)", "1 2 3 * +"}, {"(1+t)^2", "1 t + ^2"}, {"(2)^3", "2 ^3"}, {"(2^3)^2", "2 ^3 ^2"}, {"((2^3)^2)^-1", "2 ^3 ^2 ^-1"}, {"(a)*(b)", "l-1 l-1 *"}, {"-(1+2)*3", "1 2 + ~ 3 *"}, {"-((1+2)*3)", "1 2 + 3 * ~"},
		// Indices.
		{"y[1]", "y1"}, {"y[9]", "y9"}, {"y[10]", "y10"}, {"y[99]", "y99"}, {"y[100]", "y100"}, {"y[998]", "y998"}, {"y[999]", "y999"}, {"p[999]", "p999"}, {"y[00]", "y0"}, {"y[000]", "y0"}, {"y[01]", "y1"}, {"y[001]", "y1"}, {"y[010]", "y10"}, {"y[099]", "y99"}, {"p[12]", "p12"}, {"p[007]", "p7"}, {"y [0]", "y0"}, {"y[ 0]", "y0"}, {"y[0 ]", "y0"}, {"p\n[\t7#\n]", "p7"}, {"y[0]^2", "y0 ^2"}, {"y[0]-y[1]", "y0 y1 -"}, {"y[0]*p[1]/t", "y0 p1 * t /"},
		// Exponents.
		{"t^0", "t ^0"}, {"t^1", "t ^1"}, {"t^8", "t ^8"}, {"t^9", "t ^9"}, {"t^99", "t ^99"}, {"t^999", "t ^999"}, {"t^000", "t ^0"}, {"t^08", "t ^8"}, {"t^008", "t ^8"}, {"t^-0", "t ^0"}, {"t^-1", "t ^-1"}, {"t^-8", "t ^-8"}, {"t^-010", "t ^-10"}, {"t^-999", "t ^-999"}, {"t ^ - 3", "t ^-3"}, {"1^2", "1 ^2"}, {"a^2", "l-1 ^2"}, {"p[1]^3", "p1 ^3"}, {"0^0", "0 ^0"}, {"t^2-1", "t ^2 1 -"}, {"t^-2-1", "t ^-2 1 -"}, {"t^2--1", "t ^2 1 ~ -"}, {"t^-2*-t^-2", "t ^-2 t ^-2 ~ *"},
		// Numbers: of one word and of many, and with noughts ahead.
		{"0", "0"}, {"00", "0"}, {"007", "7"}, {times(60, "0"), "0"}, {times(59, "0") + "1", "1"}, {"9", "9"}, {"10", "10"}, {"1000", "1000"}, {"4294967295", "4294967295"}, {"4294967296", "4294967296"}, {"4294967297", "4294967297"}, {"18446744073709551615", "18446744073709551615"}, {"18446744073709551616", "18446744073709551616"}, {"000018446744073709551617", "18446744073709551617"}, {digits(59), digits(59)}, {digits(60), digits(60)}, {times(60, "9"), times(60, "9")}, {"1" + times(59, "0"), "1" + times(59, "0")}, {digits(60) + "*" + digits(60), digits(60) + " " + digits(60) + " *"},
		// Names.
		{"abc", "l-1"}, {"_", "l-1"}, {"tt", "l-1"}, {"Y", "l-1"}, {"lets", "l-1"}, {letters(12), "l-1"}, {"t0", "l-1"}, {"y0", "l-1"}, {"a*b*a", "l-1 l-1 * l-1 *"},
	} {
		checkOne(t, c.s, c.want)
	}
}

func TestNoExprTable(t *testing.T) {
	for _, c := range []struct {
		s     string
		place int
	}{
		// Nothing.
		{"", 0}, {" ", 1}, {"#", 1}, {"# 1", 3}, {"\n# 1\n ", 6},
		// What a field may begin with, or go on with, and an expr not.
		{"[1]", 0}, {"[", 0}, {"let a=1;[a]", 0}, {"let", 0}, {"let a=1;a", 0}, {"1;", 1}, {"1=1", 1}, {"1]", 1}, {"1,t", 1}, {"1,", 1}, {"a=1", 1},
		// let as a name.
		{"1+let", 2}, {"-let", 1}, {"(let)", 1}, {"let+1", 0}, {"let^2", 0}, {"t*let*t", 2},
		// Words behind what is an expr.
		{"1 2", 2}, {"1 t", 2}, {"t 1", 2}, {"t t", 2}, {"a b", 2}, {"2a", 1}, {"2t", 1}, {"2y[0]", 1}, {"1(2)", 1}, {"(1)(2)", 3}, {"(1)2", 3}, {"a(1)", 1}, {"t(1)", 1}, {"y[0]y[1]", 4}, {"y[0][1]", 4}, {"y[0]1", 4}, {"t[0]", 1}, {"a[0]", 1}, {"1[0]", 1}, {"T[0]", 1}, {"1)", 1}, {"1))", 1}, {"(1))", 3}, {"t]", 1}, {"1 #\n2", 4}, {"1 let", 2},
		// A sign without one of its operands.
		{"+", 0}, {"*", 0}, {"/", 0}, {"^", 0}, {"-", 1}, {"--", 2}, {"+1", 0}, {"*1", 0}, {"/1", 0}, {"^1", 0}, {"1+", 2}, {"1-", 2}, {"1*", 2}, {"1/", 2}, {"1+ ", 3}, {"1++2", 2}, {"1+*2", 2}, {"1*+2", 2}, {"1**2", 2}, {"1*/2", 2}, {"1//2", 2}, {"1-+2", 2}, {"-+1", 1}, {"-*1", 1}, {"1+)", 2}, {"1*,", 2}, {"1-;", 2}, {"=", 0}, {"1+=2", 2}, {"-^2", 1}, {"1+^2", 2},
		// Brackets: empty ones, unlike ones, one that is missing.
		{"()", 1}, {"( )", 2}, {"(())", 2}, {"(", 1}, {"( ", 2}, {")", 0}, {")(", 0}, {"]", 0}, {"(1", 2}, {"(1 ", 3}, {"((1)", 4}, {"(1]", 2}, {"([1])", 1}, {"(1,2)", 2}, {"(1;)", 2}, {"(1=2)", 2}, {"(1 2)", 3}, {"(+1)", 1}, {"(1+)", 3}, {"(-)", 2}, {"1+()", 3}, {"()1", 1}, {"(y[0)]", 4},
		// Indices: four digits, none, another thing in their place, a bracket that is missing at either side.
		{"y[1000]", 2}, {"y[0000]", 2}, {"y[0001]", 2}, {"y[9999]", 2}, {"p[1000]", 2}, {"y[ 1000 ]", 3}, {"y[" + digits(60) + "]", 2}, {"y[]", 2}, {"y[ ]", 3}, {"p[]", 2}, {"y[a]", 2}, {"y[t]", 2}, {"y[y[0]]", 2}, {"y[-1]", 2}, {"y[+1]", 2}, {"y[(0)]", 2}, {"y[let]", 2}, {"y[*]", 2}, {"y[[0]]", 2}, {"y[,]", 2},
		{"y0]", 2}, {"y", 1}, {"p", 1}, {"y ", 2}, {"y 0", 2}, {"y+1", 1}, {"y^2", 1}, {"y)", 1}, {"(y)", 2}, {"y(0)", 1}, {"y,", 1}, {"-y", 2}, {"y y[0]", 2}, {"y t", 2}, {"y let", 2}, {"p p", 2}, {"y]0]", 1}, {"y=", 1}, {"y;", 1},
		{"y[", 2}, {"y[0", 3}, {"y[0 ", 4}, {"y[0)", 3}, {"y[0 1]", 4}, {"y[0+1]", 3}, {"y[0,1]", 3}, {"y[0[", 3}, {"y[0a]", 3}, {"y[0;", 3}, {"y[0=", 3}, {"y[0^1]", 3}, {"p[7", 3},
		// Exponents: four digits, two -, a +, none, one behind the other, brackets.
		{"t^1000", 2}, {"t^0000", 2}, {"t^0008", 2}, {"t^-1000", 3}, {"t^-0001", 3}, {"t^" + digits(60), 2}, {"t^--2", 3}, {"t^---2", 3}, {"t^+2", 2}, {"t^-+2", 3}, {"t^", 2}, {"t^ ", 3}, {"t^-", 3}, {"t^- ", 4}, {"t^)", 2}, {"t^-)", 3}, {"(t^)", 3}, {"(t^-)", 4}, {"t^*2", 2}, {"t^^2", 2}, {"t^2^2", 3}, {"t^2^3^4", 3}, {"t^-2^2", 4}, {"2^3^2", 3}, {"(t^2^2)", 4}, {"-t^2^2", 4}, {"t^(2)", 2}, {"t^-(2)", 3}, {"t^(-2)", 2}, {"t^a", 2}, {"t^t", 2}, {"t^-a", 3}, {"t^-t", 3}, {"t^y[0]", 2}, {"t^let", 2}, {"t^2 3", 4}, {"t^2t", 3}, {"t^2(", 3}, {"t^[2]", 2}, {"t^,", 2}, {"t^;", 2}, {"t^=", 2},
		// The place of the word, with blanks and remarks ahead.
		{"  )", 2}, {"1 # )\n )", 7}, {"1\n\n\n2", 4}, {"\t y \t z", 6}, {"1 +# +\n+", 7}, {"t^ # 1\n 1000", 8}, {"1 + # 2", 7}, {"(1 #)\n#)", 8},
	} {
		checkNone(t, c.s, c.place)
	}
}

// Names that stand for lets: none, one, many, the same twice, and those that can't be meant.
func TestNamesTable(t *testing.T) {
	for _, c := range []struct {
		s, want string
		names   []string
	}{
		{"a", "l-1", nil},
		{"a", "l-1", []string{}},
		{"a", "l0", []string{"a"}},
		{"a", "l-1", []string{"b"}},
		{"a", "l1", []string{"b", "a"}},
		{"a", "l0", []string{"a", "a"}},
		{"a", "l1", []string{"b", "a", "b", "a"}},
		{"b*a-c", "l1 l0 * l2 -", []string{"a", "b", "c"}},
		{"c^2+c^2", "l2 ^2 l2 ^2 +", []string{"a", "b", "c"}},
		{"d", "l-1", []string{"a", "b", "c"}},
		{"A", "l-1", []string{"a"}},
		{"a", "l-1", []string{"A", "aa", "a ", " a", "a1", ""}},
		{"aa", "l1", []string{"a", "aa", "aaa"}},
		{"a", "l4", []string{"", "1", "t", "a b", "a"}},
		{"a+1", "l0 1 +", []string{"a", "1", "+", "a+1"}},
		// t, y, p and numbers mean what they mean.
		{"t", "t", []string{"t"}},
		{"y[0]", "y0", []string{"y", "y[0]"}},
		{"p[0]", "p0", []string{"p"}},
		{"1", "1", []string{"1"}},
		{"t*a*y[1]*p[2]*b", "t l4 * y1 * p2 * l5 *", []string{"t", "y", "p", "let", "a", "b"}},
		{letters(12), "l1", []string{letters(13), letters(12), letters(11)}},
		{"_", "l2", []string{"", "-", "_"}},
		{"a", "l1", []string{"\xff\x00", "a", times(100000, "a")}},
		{"a", "l5000", append(slices.Repeat([]string{"b"}, 5000), "a")},
		{"b", "l0", append(slices.Repeat([]string{"b"}, 5000), "a")},
	} {
		checkExpr(t, c.s, c.want, c.names...)
	}
	for _, c := range []struct {
		s     string
		place int
		names []string
	}{
		{"", 0, []string{""}},
		{"", 0, []string{"a"}},
		{"let", 0, []string{"let"}},
		{"1+let", 2, []string{"let", "a"}},
		{"y", 1, []string{"y"}},
		{"p", 1, []string{"p", "y"}},
		{"t[0]", 1, []string{"t"}},
		{"[a]", 0, []string{"[a]"}},
		{"a b", 2, []string{"a b", "a", "b"}},
		{"a[0]", 1, []string{"a", "a[0]"}},
		{"(", 1, []string{"("}},
		{"a$", 1, []string{"a$"}},
		{letters(13), 12, []string{letters(13)}},
		{"let a=1;[a]", 0, []string{"a"}},
	} {
		checkNoExpr(t, c.s, c.place, c.names...)
	}
}

// Names of lets ahead stand for nothing in other calls; Expr's names stand for nothing in Parse.
func TestNamesHoldForOneCall(t *testing.T) {
	for range 3 {
		checkField(t, "let a=1;let b=2;[a+b]", "a: 1; b: 2; [l0 l1 +]")
		checkField(t, "[a+b]", "[l-1 l-1 +]")
		checkNoField(t, "let a=1;let b=2;[a+b", 20)
		checkField(t, "let b=1;[a+b]", "b: 1; [l-1 l0 +]")
		checkExpr(t, "a+b", "l-1 l-1 +")
		checkExpr(t, "a+b", "l1 l0 +", "b", "a")
		checkExpr(t, "a+b", "l-1 l0 +", "b")
	}
}

// The words from which texts are made: each sign, numbers on both sides of three digits, and names of each kind.
var vocabulary = []string{"1", "999", "0000", "1000", "t", "y", "p", "let", "a", "b", "Let", "number", "small", "name", "expr", "field", "close", "+", "-", "*", "/", "^", "(", ")", "[", "]", ",", ";", "="}

// grow goes through all that words may go on with, so far as steps are words that alphabet has; it asks about each text of that kind, with one word more, be it wrong or not, and of wrong ones with some words behind it.
func grow(words []string, ways []hope, left int, alphabet []string, ask func(words []string, wrong int)) {
	for _, w := range vocabulary {
		longer := append(slices.Clone(words), w)
		next := ready(after(ways, w))
		switch {
		case len(next) == 0:
			ask(longer, len(words))
			if len(words)%2 == 0 {
				ask(append(longer, "1", "]"), len(words))
				ask(append(longer, ")"), len(words))
			}
		case mayEnd(next):
			ask(longer, -1)
		default:
			ask(longer, len(longer))
		}
		if left > 1 && len(next) > 0 && slices.Contains(alphabet, w) {
			grow(longer, next, left-1, alphabet, ask)
		}
	}
}

func TestAllShortExprs(t *testing.T) {
	for _, c := range []struct {
		n        int
		alphabet []string
	}{
		{6, []string{"1", "a", "-", "+", "*", "^", "(", ")"}},
		{8, []string{"t", "-", "*", "(", ")"}},
		{9, []string{"1", "-", "/", "^"}},
		{10, []string{"y", "[", "1", "]", "-", "^"}},
		{4, vocabulary},
	} {
		asked, right := 0, 0
		grow(nil, ready([]hope{{"expr", 0}}), c.n, c.alphabet, func(words []string, wrong int) {
			asked++
			if wrong < 0 {
				right++
			}
			checkExprWords(t, words, wrong, asked, "b", "a", "b")
		})
		if right < 500 {
			t.Errorf("of %d texts of words like %s only %d are right", asked, c.alphabet, right)
		}
	}
}

func TestAllShortFields(t *testing.T) {
	for _, c := range []struct {
		n        int
		alphabet []string
	}{
		{16, []string{"let", "a", "=", ";", "[", "]"}},
		{9, []string{"[", "1", "-", "+", ",", "]"}},
		{9, []string{"[", "y", "1", "-", ",", "]", "(", ")"}},
		{12, []string{"let", "b", "=", ";", "[", "t", ",", "]"}},
		{5, vocabulary},
	} {
		asked, right := 0, 0
		grow(nil, ready([]hope{{"field", 0}}), c.n, c.alphabet, func(words []string, wrong int) {
			asked++
			if wrong < 0 {
				right++
			}
			checkFieldWords(t, words, wrong, asked)
		})
		if right < 3 {
			t.Errorf("of %d texts of words like %s only %d are right", asked, c.alphabet, right)
		}
	}
}

// chance tells numbers without a pattern; they are the same for the same seed.
type chance uint32

func (c *chance) below(n int) int {
	*c ^= *c << 13
	*c ^= *c >> 17
	*c ^= *c << 5
	return int(*c>>8) % n
}

// someExpr is an expression of about that many operations: its code, its rank, and its words, in brackets where they must be, and elsewhere, too.
func someExpr(c *chance, size int, names []string) (code []node, rank int, words []string) {
	part := func(size, least int) []string {
		sub, r, l := someExpr(c, size, names)
		code = append(code, sub...)
		for r < least || c.below(6) == 0 {
			l, r = slices.Concat([]string{"("}, l, []string{")"}), 5
		}
		return l
	}
	if size <= 0 {
		return someAtom(c, names)
	}
	rest := size - 1
	switch kind := c.below(8); kind {
	case 0, 1:
		words = append([]string{"-"}, part(rest, 3)...)
		return append(code, node{Op: 6}), 3, words
	case 2:
		words = append(part(rest, 5), "^")
		i := c.below(12)
		words = append(words, []string{"", "0", "00"}[c.below(3)]+fmt.Sprint(i))
		if len(words[len(words)-1]) > 3 {
			words[len(words)-1] = fmt.Sprint(i)
		}
		if c.below(2) == 0 {
			words = slices.Insert(words, len(words)-1, "-")
			i = -i
		}
		return append(code, node{Op: 11, I: i}), 4, words
	default:
		op := 7 + kind%4
		rank = 1 + (op-7)/2
		first := c.below(rest + 1)
		words = append(part(first, rank), []string{"+", "-", "*", "/"}[op-7])
		words = append(words, part(rest-first, rank+1)...)
		return append(code, node{Op: op}), rank, words
	}
}

func someAtom(c *chance, names []string) ([]node, int, []string) {
	switch c.below(5) {
	case 0:
		s := digits(1 + c.below(60))
		return []node{constant(s)}, 5, []string{s}
	case 1:
		return []node{{Op: 2}}, 5, []string{"t"}
	case 2:
		i := c.below(1000)
		return []node{{Op: 3, I: i}}, 5, []string{"y", "[", fmt.Sprint(i), "]"}
	case 3:
		i := c.below(10)
		return []node{{Op: 4, I: i}}, 5, []string{"p", "[", fmt.Sprintf("%03d", i), "]"}
	}
	name := []string{"a", "b", "c", "d", letters(12), "other"}[c.below(6)]
	return []node{{Op: 5, I: slices.Index(names, name)}}, 5, []string{name}
}

// someField has lets of some names, none of which need be others.
func someField(c *chance, size int) (f field, words []string) {
	var names []string
	for range c.below(5) {
		name := []string{"a", "b", "c", "d", letters(12)}[c.below(5)]
		code, _, l := someExpr(c, c.below(size), names)
		f.Lets = append(f.Lets, let{Name: name, Code: code})
		words = slices.Concat(words, []string{"let", name, "="}, l, []string{";"})
		names = append(names, name)
	}
	words = append(words, "[")
	for i := range 1 + c.below(4) {
		code, _, l := someExpr(c, c.below(size), names)
		if i > 0 {
			words = append(words, ",")
		}
		f.Outs = append(f.Outs, code)
		words = append(words, l...)
	}
	return f, append(words, "]")
}

// Expressions that are made, written and read: once the model of this test is asked what their words mean, too.
func TestWrittenExprsAreRead(t *testing.T) {
	names := []string{"b", "a", "b", letters(12), "d"}
	c := chance(12345)
	for i := range 4000 {
		code, _, words := someExpr(&c, i%30, names)
		s, _ := laid(words, i)
		if len(s) > maxText || stuck(words, "expr") >= 0 {
			t.Fatalf("%q should be an expr", s)
		}
		checkExpr(t, s, shownCode(code), names...)
		checkExprWords(t, words, -1, i+1, names...)
	}
}

func TestWrittenFieldsAreRead(t *testing.T) {
	c := chance(54321)
	for i := range 3000 {
		f, words := someField(&c, 12)
		s, _ := laid(words, i)
		if len(s) > maxText || stuck(words, "field") >= 0 {
			t.Fatalf("%q should be a field", s)
		}
		checkField(t, s, shownField(f))
		checkFieldWords(t, words, -1, i+1)
	}
}

// In fields some word is put in, taken out, or made into another one, or two of them; the first one that can't stand there is told.
func TestFieldsWithWrongWords(t *testing.T) {
	c := chance(777)
	wrongs := 0
	for i := range 10000 {
		_, words := someField(&c, 8)
		for range 1 + c.below(2) {
			at := c.below(len(words))
			w := vocabulary[c.below(len(vocabulary))]
			switch c.below(4) {
			case 0:
				words = slices.Insert(words, at, w)
			case 1:
				words = slices.Delete(words, at, at+1)
			case 2:
				words[at] = w
			case 3:
				words = words[:at+1]
			}
		}
		if s, _ := laid(words, i); len(s) > maxText {
			continue
		}
		wrong := stuck(words, "field")
		if wrong >= 0 {
			wrongs++
		}
		checkFieldWords(t, words, wrong, i)
	}
	if wrongs < 5000 {
		t.Errorf("only %d fields are wrong", wrongs)
	}
}

// Levels that are opened by brackets, by -, and by both in turn: as many as may be, and one more.
func TestLevels(t *testing.T) {
	for _, c := range []struct{ open, closed, mark string }{
		{"(", ")", ""},
		{"-", "", " ~"},
		{"-(", ")", " ~"},
		{"(-", ")", " ~"},
		{"--(", ")", " ~ ~"},
		{"((-", "))", " ~"},
	} {
		per := len(c.open)
		for _, n := range []int{1, 2, maxDepth/per - 1, maxDepth / per} {
			checkOne(t, times(n, c.open)+"1"+times(n, c.closed), "1"+times(n, c.mark))
		}
		// What is too deep is told where it opens, be the rest as it likes.
		for n := maxDepth/per + 1; n < 200; n += 1 + n/20 {
			all := times(n, c.open)
			checkNone(t, all+"1"+times(n, c.closed), maxDepth)
			checkNone(t, all, maxDepth)
			checkNone(t, all+")(", maxDepth)
			checkNone(t, all[:maxDepth+1]+"let", maxDepth)
			checkNone(t, " \n "+times(n, strings.Join(strings.Split(c.open, ""), " ")+" "), 3+2*maxDepth)
		}
	}
	deep, back := times(maxDepth, "("), times(maxDepth, ")")
	// At the deepest place all may stand that opens none.
	for _, c := range []struct{ s, want string }{{"1-1", "1 1 -"}, {"t^-2", "t ^-2"}, {"y[0]*p[1]", "y0 p1 *"}, {"a-b-c", "l-1 l-1 - l-1 -"}, {"1+2*3-4/5", "1 2 3 * + 4 5 / -"}} {
		checkOne(t, deep+c.s+back, c.want)
	}
	// What opens one is refused there, at its place.
	for _, c := range []struct {
		s     string
		place int
	}{{"-1", 0}, {"(1)", 0}, {"1+-1", 2}, {"1--1", 2}, {"1*-1", 2}, {"1*(1)", 2}, {"1-(1)", 2}, {"t^-2-(1)", 5}, {"1+1+(", 4}, {"-", 0}, {"(", 0}} {
		checkNone(t, deep+c.s+back, maxDepth+c.place)
	}
	// What is wrong ahead of it is told first.
	checkNone(t, deep+"1 1(", maxDepth+2)
	checkNone(t, deep+"1(", maxDepth+1)
	checkNone(t, deep+"*(", maxDepth)
	checkNone(t, deep+"1"+back+")(", 2*maxDepth+1)
	// Neither are - of two operands, or of exponents, levels, nor the brackets of indices.
	checkOne(t, "1"+times(100, "-1"), "1"+times(100, " 1 -"))
	checkOne(t, "t^-1"+times(100, "*t^-1"), "t ^-1"+times(100, " t ^-1 *"))
	checkOne(t, "y[0]"+times(100, "+y[0]"), "y0"+times(100, " y0 +"))
}

// What is read is closed again: side by side there may be as many levels as one likes.
func TestLevelsSideBySide(t *testing.T) {
	for _, c := range []struct{ s, want string }{
		{"(1)", "1"}, {"-1", "1 ~"}, {"--1", "1 ~ ~"}, {"-(-1)", "1 ~ ~"}, {"-t^2", "t ^2 ~"}, {"(-1)^2", "1 ~ ^2"}, {"(1-1)", "1 1 -"}, {"(-y[0])", "y0 ~"}, {"-(1)^2", "1 ^2 ~"},
	} {
		for _, n := range []int{1, 2, 20, 39, 40, 41, 80, 130} {
			for _, sign := range []string{"+", "-", "*", "/"} {
				checkExpr(t, c.s+times(n, sign+c.s), c.want+times(n, " "+c.want+" "+sign))
			}
			checkField(t, "["+c.s+times(n, ","+c.s)+"]", "["+c.want+times(n, ", "+c.want)+"]")
			checkField(t, times(n, "let a="+c.s+";")+"["+c.s+"]", times(n, "a: "+c.want+"; ")+"["+c.want+"]")
		}
		// Beside the levels that are around all.
		for n := 30; n <= maxDepth; n++ {
			s := times(n, "(") + c.s + times(60, "*"+c.s) + times(n, ")")
			if n+levelsOf(c.s) <= maxDepth {
				checkExpr(t, s, c.want+times(60, " "+c.want+" *"))
			} else {
				_, fault := parse.Expr(s)
				if fault.Kind != 1 || fault.At < maxDepth || fault.At >= n+len(c.s) {
					t.Fatalf("Expr(%q): %v", s, fault)
				}
			}
		}
	}
	full, closed := times(maxDepth, "("), times(maxDepth, ")")
	one := full + "1" + closed
	checkOne(t, one+"+"+one+"*"+one, "1 1 1 * +")
	checkOne(t, one+"-"+times(maxDepth, "-")+"1", "1 1"+times(maxDepth, " ~")+" -")
	checkOne(t, times(maxDepth, "-")+"1-"+one, "1"+times(maxDepth, " ~")+" 1 -")
	checkNone(t, one+"+("+one+")", 2*maxDepth+2+maxDepth)
	checkNone(t, one+"-(("+one, 2*maxDepth+3+maxDepth-1)
	checkField(t, "let a="+one+";let b="+one+";["+one+","+one+"]", "a: 1; b: 1; [1, 1]")
	checkNoField(t, "let a="+one+";let b=("+one+");["+one+","+one+"]", len("let a=;let b=(")+len(one)+maxDepth-1)
	checkNoField(t, "["+one+",("+one+")]", len("[,(")+len(one)+maxDepth-1)
	// A level that is opened and never closed.
	for _, n := range []int{1, 2, 39, 40} {
		checkNoExpr(t, times(n, "(")+"1"+times(n-1, ")"), 2*n)
		checkNoExpr(t, times(n, "("), n)
		checkNoExpr(t, times(n, "-"), n)
		checkNoField(t, "["+times(n, "(")+"1"+times(n-1, ")")+"]", 2*n+1)
		checkNoField(t, "let a="+times(n, "(")+"1"+times(n-1, ")")+";[a]", 2*n+6)
	}
	// One word opens one too many, each of those behind it, too.
	for _, n := range []int{41, 42, 1000, maxText} {
		checkNoExpr(t, times(n, "("), maxDepth)
		checkNoExpr(t, times(n, "-"), maxDepth)
	}
}

// levelsOf is how many levels stand within one another in one of the short texts of these tests.
func levelsOf(s string) int {
	words := strings.Split(s, "")
	for n := range 3 {
		around := slices.Concat(slices.Repeat([]string{"("}, maxDepth-n), words, slices.Repeat([]string{")"}, maxDepth-n))
		if stuck(around, "expr") < 0 {
			return n
		}
	}
	return 3
}

// Where there are many levels, each word's place is held against the model.
func TestDeepTexts(t *testing.T) {
	c := chance(99)
	refused := 0
	for i := range 6000 {
		var words []string
		open := 0
		for len(words) < 40+c.below(60) {
			switch {
			case c.below(16) > 0:
				if c.below(2) == 0 {
					words = append(words, "-")
				} else {
					words = append(words, "(")
					open++
				}
			default:
				words = append(words, "t")
				for open > 0 && c.below(3) > 0 {
					words = append(words, ")")
					open--
				}
				words = append(words, []string{"-", "*", "+", "/"}[c.below(4)])
			}
		}
		words = append(words, "1")
		for range open {
			words = append(words, ")")
		}
		if s, _ := laid(words, i); len(s) > maxText {
			t.Fatal("too long")
		}
		wrong := stuck(words, "expr")
		if wrong >= 0 {
			refused++
		}
		checkExprWords(t, words, wrong, i)
	}
	if refused < 500 || refused > 5500 {
		t.Errorf("of 6000 texts %d are refused", refused)
	}
}

// Layer 16's fault is told, if there is one, be it ahead of what can't stand there or behind.
func TestFaultsOfLayer16(t *testing.T) {
	for _, c := range []struct {
		s     string
		place int
	}{
		{"$", 0}, {".", 0}, {"\x80", 0}, {"\x00", 0}, {"1.5", 1}, {"t!", 1}, {"a b$", 3}, {"1 + $", 4}, {"$ )", 0}, {") $", 2}, {"[1 $", 3}, {"[[1] $", 5}, {"]]]]$", 4}, {"1 1 1 .", 6}, {"let t = 1; [$]", 12}, {"$ let t", 0}, {"[1] x $", 6}, {"[$] x", 1}, {"y[1000] é", 8}, {"é y[1000]", 0},
		{digits(61), 60}, {"[" + digits(61) + "]", 61}, {"[1] " + digits(61), 64}, {") " + digits(61), 62}, {times(61, "0"), 60}, {"y[" + digits(61) + "]", 62}, {"t^" + digits(61), 62}, {digits(61) + "$", 60}, {"$" + digits(61), 0},
		{letters(13), 12}, {"[" + letters(13) + "]", 13}, {") " + letters(13), 14}, {"let " + letters(13) + "=1;[t]", 16}, {"y " + letters(13), 14},
		{times(41, "(") + "$", 41}, {times(41, "-") + "." + times(41, "-"), 41}, {"$" + times(41, "("), 0},
		{times(maxText+1, "1"), maxText}, {times(maxText+1, "$"), maxText}, {times(maxText+1, "("), maxText}, {times(maxText+1, " "), maxText}, {"[1]" + times(maxText-2, " "), maxText}, {")" + times(maxText, "#"), maxText}, {times(3*maxText, "$"), maxText}, {times(100*maxText, "("), maxText},
	} {
		checkNoField(t, c.s, c.place)
		checkNoExpr(t, c.s, c.place)
		checkNoExpr(t, c.s, c.place, "a", letters(13))
	}
	// One that isn't ahead of layer 16's has no say, nor the other way round, where there is none.
	for i := range 40 {
		s := []byte(times(40, ")"))
		checkNoExpr(t, string(s), 0)
		s[i] = '$'
		checkNoExpr(t, string(s), i)
		checkNoField(t, string(s), i)
	}
	for c := range 256 {
		s := string([]byte{'[', '1', ' ', byte(c)})
		_, got := parse.Parse(s)
		want := parseAt(3)
		switch {
		case strings.IndexByte(" \t\n\r#,+-*/^", byte(c)) >= 0:
			want = parseAt(4)
		case c == ']':
			want = none
		}
		if got != want {
			t.Errorf("Parse(%q): %v; want %v", s, got, want)
		}
	}
}

// Texts of as many bytes as may be, of one less, of one more, of many more.
func TestLongTexts(t *testing.T) {
	for _, n := range []int{maxText - 2, maxText - 1, maxText, maxText + 1, maxText + 2, 2 * maxText, 50 * maxText} {
		blanks := times(n-3, " ")
		ones := (n - 1) / 2
		rest := times((n-1)%2, " ")
		for _, c := range []struct{ s, want string }{
			{"[1]" + blanks, "[1]"},
			{blanks + "[1]", "[1]"},
			{"[1" + blanks + "]", "[1]"},
			{"[" + blanks + "1]", "[1]"},
			{"[1]#" + times(n-4, "x"), "[1]"},
			{"#" + times(n-5, "$") + "\n[1]", "[1]"},
			{"[1" + times(ones-1, ",1") + rest + "]", "[1" + times(ones-1, ", 1") + "]"},
			{"[1" + times(ones-1, "-1") + rest + "]", "[1" + times(ones-1, " 1 -") + "]"},
			{"[t" + times(ones-1, "/t") + rest + "]", "[t" + times(ones-1, " t /") + "]"},
			{times((n-3)/8, "let a=a;") + "[a]" + times((n-3)%8, " "), "a: l-1; " + times((n-3)/8-1, "a: l0; ") + "[l0]"},
		} {
			if len(c.s) != n {
				t.Fatalf("%d bytes; want %d", len(c.s), n)
			}
			if n > maxText {
				checkNoField(t, c.s, maxText)
				checkNoExpr(t, c.s, maxText)
			} else {
				checkField(t, c.s, c.want)
			}
		}
		s := "1" + times(n-1, " ")
		e := "1" + times(n/2, "*1") + times(n, " ")
		if n > maxText {
			checkNoExpr(t, s, maxText)
			checkNoExpr(t, e[:n], maxText)
		} else {
			checkExpr(t, s, "1")
			checkNoField(t, s, 0)
			checkNoField(t, "["+s[1:], n)
			checkNoField(t, "[1"+s[2:], n)
			checkNoExpr(t, s[1:]+"+", n-1)
			checkExpr(t, e[:n/2*2-1], "1"+times(n/2-1, " 1 *"))
		}
	}
}

// As many lets as there is room for; each name means the first one, and in each expression those ahead.
func TestManyLets(t *testing.T) {
	for _, n := range []int{1, 9, 10, 11, 12, 100, 200} {
		var s, want strings.Builder
		for i := range n {
			fmt.Fprintf(&s, "let a%d=a%d+a%d;", i, i-i%3, max(i-1, 0))
			first, second := i-i%3, max(i-1, 0)
			if first == i {
				first = -1
			}
			if i == 0 {
				second = -1
			}
			fmt.Fprintf(&want, "a%d: l%d l%d +; ", i, first, second)
		}
		checkField(t, s.String()+fmt.Sprintf("[a0,a%d,a%d]", n-1, n), want.String()+fmt.Sprintf("[l0, l%d, l-1]", n-1))
	}
	// The name of a let at each place is given once more at each later one.
	for first := range 5 {
		for second := first + 1; second < 6; second++ {
			var s, want strings.Builder
			for i := range 6 {
				name, meant := fmt.Sprint("b", i), -1
				if i == first || i == second {
					name = "a"
				}
				if i > first {
					meant = first
				}
				fmt.Fprintf(&s, "let %s=a;", name)
				fmt.Fprintf(&want, "%s: l%d; ", name, meant)
			}
			checkField(t, s.String()+"[a]", want.String()+fmt.Sprintf("[l%d]", first))
		}
	}
}

// Indices and exponents of all numbers of up to three digits, however many noughts are ahead, and of some longer ones.
func TestSmallNumbers(t *testing.T) {
	for i := range 1000 {
		for _, form := range []string{"%d", "%02d", "%03d"} {
			s := fmt.Sprintf(form, i)
			checkExpr(t, "y["+s+"]", fmt.Sprint("y", i))
			checkExpr(t, "p["+s+"]", fmt.Sprint("p", i))
			checkExpr(t, "t^"+s, fmt.Sprint("t ^", i))
			checkExpr(t, "t^-"+s, fmt.Sprint("t ^", -i))
		}
	}
	for _, i := range []int{0, 1, 8, 999, 1000, 1001, 9999, 65536, 4294967296, 4294967297} {
		for width := 4; width <= 60; width += 7 {
			s := fmt.Sprintf("%0*d", width, i)
			checkNone(t, "y["+s+"]", 2)
			checkNone(t, "p["+s+"]", 2)
			checkNone(t, "t^"+s, 2)
			checkNone(t, "t^-"+s, 3)
		}
	}
}

// Numbers of each length, with noughts ahead and without.
func TestNumbers(t *testing.T) {
	for n := 1; n <= maxDigits; n++ {
		for _, s := range []string{digits(n), times(n, "9"), "1" + times(n-1, "0"), digits(n)[n/2:]} {
			for noughts := 0; noughts+len(s) <= maxDigits; noughts += 1 + noughts {
				checkOne(t, times(noughts, "0")+s, s)
			}
			checkNoExpr(t, times(maxDigits+1-len(s), "0")+s, maxDigits)
		}
	}
	for shift := range 199 {
		power := new(big.Int).Lsh(big.NewInt(1), uint(shift))
		for beside := int64(-1); beside <= 1; beside++ {
			s := new(big.Int).Add(power, big.NewInt(beside)).String()
			got, fault := parse.Expr(s)
			want := constant(s)
			if fault != none || len(got) != 1 || got[0].Op != 1 || got[0].I != 0 || !slices.Equal(got[0].N, want.N) {
				t.Fatalf("Expr(%q): %v, %v; want %v", s, got, fault, want)
			}
		}
	}
}

// piecesOf are all rows of words in a right text that are read as one.
func piecesOf(words []string, start string) []piece {
	var l []piece
	if start == "expr" {
		meaning(words, nil, 0, &l)
	} else {
		fieldMeaning(words, &l)
	}
	return l
}

func bracketed(words []string, p piece, n int) []string {
	return slices.Concat(words[:p.from], slices.Repeat([]string{"("}, n), words[p.from:p.behind], slices.Repeat([]string{")"}, n), words[p.behind:])
}

// samples are right fields, as words: some short ones, and some with as many levels as may be, or nearly so.
func samples() [][]string {
	var l [][]string
	for _, s := range []string{"[ 1 ]", "[ - y [ 0 ] + 2 * t ]", "let a = t + 1 ; [ a * a , - a ^ 2 ]", "[ 1 - 2 - 3 * 4 / 5 ^ - 6 ]", "[ - - ( 1 + t ) ^ 2 * - p [ 1 ] ]"} {
		l = append(l, strings.Fields(s))
	}
	c := chance(31)
	for range 60 {
		_, words := someField(&c, 7)
		l = append(l, words)
	}
	for n := maxDepth - 3; n <= maxDepth; n++ {
		l = append(l, strings.Fields("[ t , "+times(n, "( ")+"1 - t ^ 2"+times(n, " )")+" ]"))
		l = append(l, strings.Fields("let a = "+times(n, "- ")+"1 ; [ a ]"))
		l = append(l, strings.Fields("[ 1 * "+times(n/2, "- ( ")+"t + "+times(n%2, "- ")+"p [ 0 ] "+times(n/2, ") ")+" ]"))
	}
	return l
}

// Brackets around what is read as one change nothing, if there is room of levels; where there isn't, the word that has none is told.
func TestBracketsAroundWhatIsOne(t *testing.T) {
	changed, refused := 0, 0
	for seed, words := range samples() {
		want := shownField(fieldMeaning(words, new([]piece)))
		for _, p := range piecesOf(words, "field") {
			for n := 1; n <= 3; n++ {
				more := bracketed(words, p, n)
				s, places := laid(more, seed+n)
				if wrong := stuck(more, "field"); wrong >= 0 {
					checkNoField(t, s, places[wrong])
					refused++
					continue
				}
				checkField(t, s, want)
				changed++
			}
		}
	}
	if changed < 1000 || refused < 100 {
		t.Errorf("%d texts were read, %d refused", changed, refused)
	}
}

// Blanks and remarks between words change nothing but places, if there is room of bytes.
func TestBlanksBetweenWords(t *testing.T) {
	for _, words := range samples() {
		want := shownField(fieldMeaning(words, new([]piece)))
		tight := ""
		ahead := ""
		for _, w := range words {
			if runsInto(ahead, w) {
				tight += " "
			}
			tight += w
			ahead = w
		}
		checkField(t, tight, want)
		for i := range len(words) + 1 {
			front, back := strings.Join(words[:i], " "), strings.Join(words[i:], " ")
			for _, blank := range []string{" ", "   ", "\n", "\r\n", "\t", "#\n", "# [(-)] let\n", " #\x80\n# \n"} {
				checkField(t, front+blank+back, want)
			}
			room := maxText - len(front) - len(back)
			checkField(t, front+times(room, " ")+back, want)
			checkField(t, front+"#"+times(room-2, "#")+"\n"+back, want)
			checkNoField(t, front+times(room+1, " ")+back, maxText)
			checkNoField(t, front+"#"+times(room-1, "#")+"\n"+back, maxText)
		}
		// None between some words makes others of them.
		for i := 1; i < len(words); i++ {
			glued := strings.Join(words[:i], " ") + strings.Join(words[i:], " ")
			if !runsInto(words[i-1], words[i]) {
				checkField(t, glued, want)
			}
		}
	}
	// Also at just as many bytes, and as many levels, as may be.
	deep := "[" + times(maxDepth, "-") + "t"
	checkField(t, deep+times(maxText-len(deep)-1, "\n")+"]", "[t"+times(maxDepth, " ~")+"]")
	checkNoField(t, deep+times(maxText-len(deep), "\n")+"]", maxText)
	checkNoField(t, "[-"+deep[1:]+times(maxText-len(deep)-2, "\n")+"]", maxDepth+1)
	checkNoField(t, "["+deep[1:]+times(maxText-len(deep), "\n"), maxText)
}

// Each word of a right text is cut off with all behind it: then the text ends too early.
func TestTextsThatEndTooEarly(t *testing.T) {
	for seed, words := range samples() {
		for i := range words {
			s, places := laid(words[:i], seed)
			checkNoField(t, s, places[i])
			checkFieldWords(t, slices.Concat(words[:i], []string{"="}), stuck(slices.Concat(words[:i], []string{"="}), "field"), seed)
		}
	}
}

// lend is text as a string over bytes that the lender can write on.
func lend(text string) (string, []byte) {
	b := []byte(text)
	return unsafe.String(unsafe.SliceData(b), len(b)), b
}

// asked are texts that are read, and that aren't, for the tests of memory.
func asked() []string {
	l := []string{"", "1", "a", "[", "[1", "[a b]", "$", "t^2", "let a=1;[a]", "let ab=" + digits(60) + ";let cd=ab+" + digits(60) + ";[ab*cd,-cd,0]", "[" + times(41, "-") + "1]", "a*(b+c)-" + digits(50) + "/a^2", letters(12) + "+" + letters(11), times(maxText+1, "1")}
	for i, words := range samples() {
		s, _ := laid(words, i)
		l = append(l, s)
	}
	return l
}

func lendNames(names []string) ([]string, [][]byte) {
	var room []string
	var loans [][]byte
	for _, name := range append(slices.Clone(names), "spare", "a", letters(11)) {
		lent, b := lend(name)
		room, loans = append(room, lent), append(loans, b)
	}
	return room[:len(names)], loans
}

// Names, and spare room behind them, are left; what lies behind their length isn't read; the text is left, too.
func TestWhatIsHandedInIsLeft(t *testing.T) {
	for _, s := range asked() {
		for _, names := range [][]string{nil, {"b"}, {"c", "b", "c"}, {"ab", letters(12)}, {"", "1", "let"}} {
			lentNames, _ := lendNames(names)
			before := slices.Clone(lentNames[:cap(lentNames)])
			lent, b := lend(s)
			got, fault := parse.Expr(lent, lentNames...)
			f, wrong := parse.Parse(lent)
			if string(b) != s || !slices.Equal(lentNames[:cap(lentNames)], before) {
				t.Fatalf("of %q and %q is left %q and %q", s, before, b, lentNames[:cap(lentNames)])
			}
			want, again := parse.Expr(s, slices.Clone(names)...)
			if fault != again || shownCode(got) != shownCode(want) {
				t.Fatalf("Expr(%q, %q), with more behind the names: %s, %v; want %s, %v", s, names, shownCode(got), fault, shownCode(want), again)
			}
			if g, again := parse.Parse(s); again != wrong || shownField(f) != shownField(g) {
				t.Fatalf("Parse(%q): %s, %v, and again %s, %v", s, shownField(f), wrong, shownField(g), again)
			}
		}
	}
}

// When a call has answered, what it was given may be written on.
func TestWhatIsHandedInIsNotKept(t *testing.T) {
	names := []string{"b", "a", letters(12)}
	for _, s := range asked() {
		wantCode, wantFault := parse.Expr(s, names...)
		wantField, wantWrong := parse.Parse(s)
		code, f := shownCode(wantCode), shownField(wantField)
		lent, b := lend(s)
		lentNames, loans := lendNames(names)
		gotCode, gotFault := parse.Expr(lent, lentNames...)
		gotField, gotWrong := parse.Parse(lent)
		clear(b)
		for _, loan := range loans {
			clear(loan)
		}
		clear(lentNames[:cap(lentNames)])
		if gotFault != wantFault || gotWrong != wantWrong || shownCode(gotCode) != code || shownField(gotField) != f {
			t.Fatalf("of %q, written on behind the call, is told %s, %v; %s, %v", s, shownCode(gotCode), gotFault, shownField(gotField), gotWrong)
		}
	}
}

// spoil writes on an expression, spare room too.
func spoil(code []node) {
	for i, n := range code[:cap(code)] {
		for j := range n.N[:cap(n.N)] {
			n.N[:cap(n.N)][j] = 4711
		}
		code[:cap(code)][i] = node{Op: -9, I: -9}
	}
}

// What one answer, or one expression of a field, is made into is seen neither in another one nor in a later call.
func TestAnswersMayBeWrittenOn(t *testing.T) {
	for _, s := range asked() {
		first, _ := parse.Expr(s, "a")
		second, fault := parse.Expr(s, "a")
		want := shownCode(second)
		spoil(first)
		if third, again := parse.Expr(s, "a"); shownCode(second) != want || shownCode(third) != want || again != fault {
			t.Fatalf("Expr(%q): %s, then %s; want %s", s, shownCode(second), shownCode(third), want)
		}
		f, _ := parse.Parse(s)
		g, wrong := parse.Parse(s)
		wantField := shownField(g)
		for i := range f.Lets {
			left := shownRest(f, i)
			spoil(f.Lets[i].Code)
			if got := shownRest(f, i); got != left {
				t.Fatalf("Parse(%q): let %d, written on, leaves %s; want %s", s, i, got, left)
			}
		}
		for i := range f.Outs {
			left := shownRest(f, len(f.Lets)+i)
			spoil(f.Outs[i])
			if got := shownRest(f, len(f.Lets)+i); got != left {
				t.Fatalf("Parse(%q): out %d, written on, leaves %s; want %s", s, i, got, left)
			}
		}
		clear(f.Lets[:cap(f.Lets)])
		clear(f.Outs[:cap(f.Outs)])
		if h, again := parse.Parse(s); shownField(g) != wantField || shownField(h) != wantField || again != wrong {
			t.Fatalf("Parse(%q): %s, then %s; want %s", s, shownField(g), shownField(h), wantField)
		}
	}
}

// shownRest is f without the expression of that number, the lets' being ahead.
func shownRest(f field, but int) string {
	var l []string
	for i, code := range slices.Concat(codesOfLets(f), f.Outs) {
		if i != but {
			l = append(l, shownCode(code))
		}
	}
	return strings.Join(l, ", ")
}

func codesOfLets(f field) [][]node {
	var l [][]node
	for _, x := range f.Lets {
		l = append(l, x.Code)
	}
	return l
}

// owners are pieces of memory, each of which just one may have.
type owners struct {
	from, behind []uintptr
	who          []string
	held         []any
}

func (o *owners) claim(t *testing.T, who string, from unsafe.Pointer, size uintptr, held any) {
	t.Helper()
	if size == 0 {
		return
	}
	start := uintptr(from)
	for i := range o.from {
		if start < o.behind[i] && o.from[i] < start+size {
			t.Fatalf("%s shares memory with %s", who, o.who[i])
		}
	}
	o.from, o.behind, o.who = append(o.from, start), append(o.behind, start+size), append(o.who, who)
	// What isn't held any more could be given to another one.
	o.held = append(o.held, held)
}

func (o *owners) claimText(t *testing.T, who, s string) {
	t.Helper()
	o.claim(t, who, unsafe.Pointer(unsafe.StringData(s)), uintptr(len(s)), s)
}

// claimList takes the spare room of l, too.
func claimList[T any](t *testing.T, o *owners, who string, l []T) {
	t.Helper()
	var one T
	o.claim(t, who, unsafe.Pointer(unsafe.SliceData(l)), uintptr(cap(l))*unsafe.Sizeof(one), l)
}

func (o *owners) claimCode(t *testing.T, who string, code []node) {
	t.Helper()
	claimList(t, o, who, code)
	for _, n := range code {
		claimList(t, o, "a number of "+who, n.N)
	}
}

func (o *owners) claimField(t *testing.T, who string, f field) {
	t.Helper()
	claimList(t, o, "the lets of "+who, f.Lets)
	claimList(t, o, "the outs of "+who, f.Outs)
	for i, x := range f.Lets {
		o.claimText(t, fmt.Sprintf("the name of let %d of %s", i, who), x.Name)
		o.claimCode(t, fmt.Sprintf("let %d of %s", i, who), x.Code)
	}
	for i, out := range f.Outs {
		o.claimCode(t, fmt.Sprintf("out %d of %s", i, who), out)
	}
}

func TestAnswersAreNewMemory(t *testing.T) {
	for _, s := range asked() {
		var o owners
		lent, _ := lend(s)
		names, _ := lendNames([]string{"b", "ab", "a"})
		o.claimText(t, "the text", lent)
		claimList(t, &o, "the names", names)
		for _, name := range names[:cap(names)] {
			o.claimText(t, "a name", name)
		}
		for range 2 {
			code, _ := parse.Expr(lent, names...)
			o.claimCode(t, "what Expr answers", code)
			f, _ := parse.Parse(lent)
			o.claimField(t, "what Parse answers", f)
		}
	}
	// One text has one name, and one number, more than once; an answer hasn't.
	var o owners
	f, _ := parse.Parse("let aa=77777777777;let aa=77777777777+aa;[aa,77777777777*77777777777,77777777777,aa]")
	o.claimField(t, "what Parse answers", f)
	code, _ := parse.Expr("12345678901*12345678901*12345678901")
	o.claimCode(t, "what Expr answers", code)
}

// The same call tells the same, whatever was asked between, faults too.
func TestTheSameAgain(t *testing.T) {
	ask := func(s string) string {
		f, wrong := parse.Parse(s)
		code, fault := parse.Expr(s, "b", "a")
		return fmt.Sprint(shownField(f), wrong, shownCode(code), fault)
	}
	l := asked()
	var first []string
	for _, s := range l {
		first = append(first, ask(s))
	}
	for i := len(l) - 1; i >= 0; i-- {
		if again := ask(l[i]); again != first[i] {
			t.Fatalf("of %q is told %s, and again %s", l[i], first[i], again)
		}
		ask("[((((1 $")
		ask("let a=((((" + times(30, "-"))
	}
	for range 50 {
		checkNoField(t, "let a="+times(41, "("), 46)
		checkField(t, "let b="+times(40, "(")+"a"+times(40, ")")+";[b]", "b: l-1; [l0]")
	}
}

// Whatever is read is expressions, and there is one out at least; nothing panics at bytes without a pattern.
func TestAnyBytes(t *testing.T) {
	c := chance(2024)
	pool := []string{"let ", "a", "b", "=", ";", "[", "]", ",", "1", "22", "t", "y[", "y[0]", "p[1]", "(", ")", "-", "+", "*", "/", "^", "^2", " ", "\n", "#", "$", "\xff", "\x00", "é"}
	for i := range 60000 {
		var s strings.Builder
		for range c.below(14) {
			if i%5 == 0 {
				s.WriteByte(byte(c.below(256)))
			} else {
				s.WriteString(pool[c.below(len(pool)-4*(i%2))])
			}
		}
		text := s.String()
		for _, text := range []string{text, "[" + text + "]"} {
			f, fault := parse.Parse(text)
			if fault == none {
				for _, code := range slices.Concat(codesOfLets(f), f.Outs) {
					if !tree.Right(code) {
						t.Fatalf("Parse(%q): %s", text, shownField(f))
					}
				}
			}
			if fault == none && len(f.Outs) == 0 || fault != none && (len(f.Lets) > 0 || len(f.Outs) > 0) {
				t.Fatalf("Parse(%q): %s, %v", text, shownField(f), fault)
			}
			code, wrong := parse.Expr(text)
			if tree.Right(code) != (wrong == none) {
				t.Fatalf("Expr(%q): %s, %v", text, shownCode(code), wrong)
			}
			for _, told := range []api.Fault{fault, wrong} {
				if told != none && (told != parseAt(told.At) || told.At < 0 || told.At > len(text)) {
					t.Fatalf("of %q is told %v", text, told)
				}
			}
		}
	}
}
