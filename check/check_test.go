package check_test

import (
	"cmp"
	"fmt"
	"math"
	"math/big"
	"regexp"
	"slices"
	"strings"
	"testing"
	"unsafe"

	"retrospect/api"
	"retrospect/check"
	"retrospect/parse"
	"retrospect/tree"
)

type (
	node  = tree.Node
	let   = tree.Let
	field = tree.Field
)

// As the document names them.
const (
	maxDim    = 6
	maxPar    = 6
	maxLets   = 10
	maxNodes  = 300
	maxDepth  = 40
	maxExp    = 8
	maxDigits = 60
	maxName   = 12
)

var (
	none  = api.Fault{}
	whole = api.Fault{Kind: 2}
)

func named(step int) api.Fault { return api.Fault{Kind: 2, Step: step, Stage: 1} }

func placed(step, at int) api.Fault { return api.Fault{Kind: 2, Step: step, At: at} }

// The operations, as the document numbers them.
var (
	leaves = []int{1, 2, 3, 4, 5}
	ones   = []int{6, 11}
	twos   = []int{7, 8, 9, 10}
	allOps = slices.Concat(leaves, ones, twos)
)

// noOps are numbers of no operation: neighbours, signs turned round, and those whose lowest bits are an operation's.
func noOps() []int {
	l := []int{0, 12, 13, 16, 100, 256, 1 << 31, 1 << 32, math.MaxInt, math.MaxInt - 1, math.MinInt, math.MinInt + 1, math.MaxInt32, math.MinInt32}
	for _, op := range allOps {
		l = append(l, -op, op+16, op+256, op-256, op<<8, op+1<<16, op+1<<32, op-1<<32, op+math.MinInt)
	}
	return l
}

// edges are counts of components, parameters and lets, and places among them.
var edges = []int{0, 1, 2, 3, 5, 6, 7, 10, 11, 300, math.MaxInt - 1, math.MaxInt, -1, -2, -6, -300, math.MinInt, math.MinInt + 1, 1 << 32, -1 << 32}

func words(n ...uint32) []uint32 { return n }

func letOf(name string, code []node) let { return let{Name: name, Code: code} }

// power is 10^e, and by so much more, as a list of words.
func power(e int, more int64) []uint32 {
	value := new(big.Int).Exp(big.NewInt(10), big.NewInt(int64(e)), nil)
	value.Add(value, big.NewInt(more))
	var n []uint32
	for ; value.Sign() > 0; value.Rsh(value, 32) {
		n = append(n, uint32(value.Uint64()))
	}
	return n
}

// shortNumber is what the chapter says of Const's N.
func shortNumber(n []uint32) bool {
	if len(n) > 0 && n[len(n)-1] == 0 {
		return false
	}
	value := new(big.Int)
	for i := len(n) - 1; i >= 0; i-- {
		value.Add(value.Lsh(value, 32), big.NewInt(int64(n[i])))
	}
	return len(value.String()) <= maxDigits
}

// mayBe is what the chapter says of Node.
func mayBe(n node, dim, pars, lets int) bool {
	least, last := 0, 0
	switch n.Op {
	case 3:
		last = max(dim, 0) - 1
	case 4:
		last = max(pars, 0) - 1
	case 5:
		last = max(lets, 0) - 1
	case 11:
		least, last = -maxExp, maxExp
	}
	if n.I < least || n.I > last || !slices.Contains(allOps, n.Op) {
		return false
	}
	return n.Op == 1 && shortNumber(n.N) || n.Op != 1 && len(n.N) == 0
}

// shape is what layer 17 says of an expression: Wrong, and the depth of what stands last without being an operand yet.
func shape(code []node) (wrong, depth int) {
	var free []int
	for i, n := range code {
		needs := 0
		switch {
		case slices.Contains(ones, n.Op):
			needs = 1
		case slices.Contains(twos, n.Op):
			needs = 2
		case !slices.Contains(leaves, n.Op):
			return i, 0
		}
		if len(free) < needs {
			return i, 0
		}
		operands := append([]int{0}, free[len(free)-needs:]...)
		free = append(free[:len(free)-needs:len(free)-needs], 1+slices.Max(operands))
	}
	if len(free) != 1 {
		return len(code), 0
	}
	return -1, free[0]
}

// place is what the chapter says of Place: of all places at which something is wrong, the least one.
func place(code []node, dim, pars, lets int) int {
	var l []int
	if wrong, _ := shape(code); wrong >= 0 {
		l = append(l, wrong)
	}
	for i := len(code) - 1; i >= 0; i-- {
		if !mayBe(code[i], dim, pars, lets) {
			l = append(l, i)
		}
	}
	if len(l) == 0 {
		return -1
	}
	return slices.Min(l)
}

var nameForm = regexp.MustCompile(`\A[A-Za-z_][A-Za-z0-9_]{0,11}\z`)

func isName(s string) bool {
	return nameForm.MatchString(s) && s != "t" && s != "y" && s != "p" && s != "let"
}

// faults are all that the chapter finds wrong with f; they are sought from the last one on, and then put into the chapter's order.
func faults(f field, dim, pars int) []api.Fault {
	var l []api.Fault
	size := 0
	part := func(step int, code []node, lets int) {
		size += len(code)
		if _, depth := shape(code); depth > maxDepth {
			l = append(l, placed(step, len(code)))
		}
		if at := place(code, dim, pars, lets); at >= 0 {
			l = append(l, placed(step, at))
		}
	}
	for i, out := range slices.Backward(f.Outs) {
		part(len(f.Lets)+1+i, out, len(f.Lets))
	}
	for i, x := range slices.Backward(f.Lets) {
		part(i+1, x.Code, i)
		first := slices.IndexFunc(f.Lets, func(y let) bool { return y.Name == x.Name })
		if !isName(x.Name) || first < i {
			l = append(l, named(i+1))
		}
	}
	if dim < 1 || dim > maxDim || pars < 0 || pars > maxPar || dim != len(f.Outs) || len(f.Lets) > maxLets || size > maxNodes {
		l = append(l, whole)
	}
	// A part's place is never above how many nodes it has.
	slices.SortFunc(l, func(a, b api.Fault) int {
		return cmp.Or(cmp.Compare(a.Step, b.Step), cmp.Compare(b.Stage, a.Stage), cmp.Compare(a.At, b.At))
	})
	return l
}

func checkNode(t *testing.T, n node, dim, pars, lets int, want bool) {
	t.Helper()
	if got := check.Node(n, dim, pars, lets); got != want {
		t.Fatalf("Node(%v, %d, %d, %d): %v; want %v", n, dim, pars, lets, got, want)
	}
}

func checkPlace(t *testing.T, code []node, dim, pars, lets, want int) {
	t.Helper()
	if got := check.Place(code, dim, pars, lets); got != want {
		t.Fatalf("Place(%v, %d, %d, %d): %d; want %d", code, dim, pars, lets, got, want)
	}
}

func checkName(t *testing.T, s string, want bool) {
	t.Helper()
	if got := check.Name(s); got != want {
		t.Fatalf("Name(%q): %v; want %v", s, got, want)
	}
}

func checkField(t *testing.T, f field, dim, pars int, want api.Fault) {
	t.Helper()
	if got := check.Check(f, dim, pars); got != want {
		t.Fatalf("Check(%v, %d, %d): %v; want %v", f, dim, pars, got, want)
	}
}

// checkFirst asks for the first of all that is wrong.
func checkFirst(t *testing.T, f field, dim, pars int) {
	t.Helper()
	checkField(t, f, dim, pars, append(faults(f, dim, pars), none)[0])
}

// read is the field that s is.
func read(t *testing.T, s string) field {
	t.Helper()
	f, fault := parse.Parse(s)
	if fault != none {
		t.Fatalf("Parse(%q): %v", s, fault)
	}
	return f
}

func nodes(ops ...int) []node {
	var l []node
	for _, op := range ops {
		l = append(l, node{Op: op})
	}
	return l
}

// chain is an expression of that depth, whose operations have one operand.
func chain(depth int) []node {
	l := nodes(2)
	for i := range depth - 1 {
		l = append(l, node{Op: ones[i%2]})
	}
	return l
}

// toTheLeft and toTheRight are expressions of that depth, whose operations have two operands, one of them a single node.
func toTheLeft(depth int) []node {
	l := nodes(2)
	for i := range depth - 1 {
		l = append(l, node{Op: 1}, node{Op: twos[i%4]})
	}
	return l
}

func toTheRight(depth int) []node {
	l := slices.Repeat(nodes(2), depth)
	for i := range depth - 1 {
		l = append(l, node{Op: twos[i%4]})
	}
	return l
}

// bushy is an expression of n nodes that is hardly deep.
func bushy(n int) []node {
	switch n {
	case 1:
		return nodes(2)
	case 2:
		return nodes(2, 6)
	}
	half := (n - 1) / 2
	return slices.Concat(bushy(half), bushy(n-1-half), nodes(twos[n%4]))
}

// names are n names that may be.
func names(n int) []string {
	var l []string
	for i := range n {
		l = append(l, fmt.Sprint("n", i))
	}
	return l
}

// plain is a field that may be: n lets, each but the first saying what the one ahead does, and dim outs.
func plain(n, dim int) field {
	var f field
	for i, name := range names(n) {
		code := nodes(2, 1, 7)
		if i > 0 {
			code[0] = node{Op: 5, I: i - 1}
		}
		f.Lets = append(f.Lets, letOf(name, code))
	}
	for i := range dim {
		code := []node{{Op: 3, I: i}, {Op: 1, N: words(uint32(i + 1))}, {Op: 9}}
		if n > 0 {
			code[1] = node{Op: 5, I: i % n}
		}
		f.Outs = append(f.Outs, code)
	}
	return f
}

// code is the expression of the part of that number.
func code(f *field, part int) *[]node {
	if part <= len(f.Lets) {
		return &f.Lets[part-1].Code
	}
	return &f.Outs[part-1-len(f.Lets)]
}

// deep is f in memory of its own.
func deep(f field) field {
	g := field{Lets: slices.Clone(f.Lets)}
	for i, x := range g.Lets {
		g.Lets[i].Code = deepCode(x.Code)
	}
	for _, out := range f.Outs {
		g.Outs = append(g.Outs, deepCode(out))
	}
	return g
}

func deepCode(code []node) []node {
	l := slices.Clone(code)
	for i, n := range l {
		l[i].N = slices.Clone(n.N)
	}
	return l
}

func TestExamples(t *testing.T) {
	checkField(t, read(t, "[y[0]]"), 1, 0, none)
	checkField(t, read(t, "[y[1]]"), 1, 0, api.Fault{Kind: api.Form, Step: 1})
	checkField(t, read(t, "[p[0], 1]"), 1, 0, api.Fault{Kind: api.Form})
	checkField(t, read(t, "[y[0] * (1 - y[0])]"), 1, 0, none)
	checkField(t, read(t, "let a = t + 1; [a * a]"), 1, 0, none)
	checkField(t, read(t, "[y[0] * p[0]]"), 1, 1, none)
	checkField(t, read(t, "[y[0] * p[0]]"), 1, 0, api.Fault{Kind: api.Form, Step: 1, At: 1})
}

func TestNodeTable(t *testing.T) {
	for _, c := range []struct {
		n               node
		dim, pars, lets int
		want            bool
	}{
		// Each operation, of nothing else, where there is one of each, and where there is nothing.
		{node{Op: 1}, 1, 1, 1, true}, {node{Op: 2}, 1, 1, 1, true}, {node{Op: 3}, 1, 1, 1, true}, {node{Op: 4}, 1, 1, 1, true}, {node{Op: 5}, 1, 1, 1, true}, {node{Op: 6}, 1, 1, 1, true}, {node{Op: 7}, 1, 1, 1, true}, {node{Op: 8}, 1, 1, 1, true}, {node{Op: 9}, 1, 1, 1, true}, {node{Op: 10}, 1, 1, 1, true}, {node{Op: 11}, 1, 1, 1, true},
		{node{Op: 1}, 0, 0, 0, true}, {node{Op: 2}, 0, 0, 0, true}, {node{Op: 3}, 0, 0, 0, false}, {node{Op: 4}, 0, 0, 0, false}, {node{Op: 5}, 0, 0, 0, false}, {node{Op: 6}, 0, 0, 0, true}, {node{Op: 7}, 0, 0, 0, true}, {node{Op: 8}, 0, 0, 0, true}, {node{Op: 9}, 0, 0, 0, true}, {node{Op: 10}, 0, 0, 0, true}, {node{Op: 11}, 0, 0, 0, true},
		// No operation.
		{node{}, 6, 6, 10, false}, {node{Op: 12}, 6, 6, 10, false}, {node{Op: -1}, 6, 6, 10, false}, {node{Op: 13}, 6, 6, 10, false}, {node{Op: math.MaxInt}, 6, 6, 10, false}, {node{Op: math.MinInt}, 6, 6, 10, false},
		// Components, parameters and lets: the first, the last, one beyond, one below.
		{node{Op: 3}, 6, 0, 0, true}, {node{Op: 3, I: 5}, 6, 0, 0, true}, {node{Op: 3, I: 6}, 6, 0, 0, false}, {node{Op: 3, I: -1}, 6, 0, 0, false}, {node{Op: 3, I: 5}, 5, 6, 10, false}, {node{Op: 3, I: 4}, 5, 0, 0, true},
		{node{Op: 4}, 0, 6, 0, true}, {node{Op: 4, I: 5}, 0, 6, 0, true}, {node{Op: 4, I: 6}, 0, 6, 0, false}, {node{Op: 4, I: -1}, 0, 6, 0, false}, {node{Op: 4, I: 5}, 6, 5, 10, false}, {node{Op: 4, I: 4}, 0, 5, 0, true},
		{node{Op: 5}, 0, 0, 10, true}, {node{Op: 5, I: 9}, 0, 0, 10, true}, {node{Op: 5, I: 10}, 0, 0, 10, false}, {node{Op: 5, I: -1}, 0, 0, 10, false}, {node{Op: 5, I: 9}, 10, 10, 9, false}, {node{Op: 5, I: 8}, 0, 0, 9, true},
		// More of them than a field may have; fewer than none.
		{node{Op: 3, I: 6}, 7, 0, 0, true}, {node{Op: 4, I: 299}, 0, 300, 0, true}, {node{Op: 5, I: 10}, 0, 0, 11, true}, {node{Op: 3, I: math.MaxInt - 1}, math.MaxInt, 0, 0, true}, {node{Op: 3, I: math.MaxInt}, math.MaxInt, 0, 0, false},
		{node{Op: 3}, -1, 1, 1, false}, {node{Op: 4}, 1, -1, 1, false}, {node{Op: 5}, 1, 1, -1, false}, {node{Op: 3, I: -2}, -1, 0, 0, false}, {node{Op: 3, I: -1}, math.MinInt, 0, 0, false}, {node{Op: 3, I: math.MinInt}, 6, 0, 0, false}, {node{Op: 2}, -1, -1, -1, true}, {node{Op: 1}, math.MinInt, math.MinInt, math.MinInt, true},
		// Exponents.
		{node{Op: 11, I: 8}, 0, 0, 0, true}, {node{Op: 11, I: -8}, 0, 0, 0, true}, {node{Op: 11, I: 9}, 10, 10, 10, false}, {node{Op: 11, I: -9}, 0, 0, 0, false}, {node{Op: 11, I: 1}, 0, 0, 0, true}, {node{Op: 11, I: -1}, 0, 0, 0, true}, {node{Op: 11, I: math.MaxInt}, 0, 0, 0, false}, {node{Op: 11, I: math.MinInt}, 0, 0, 0, false},
		// I of others.
		{node{Op: 1, I: 1}, 6, 6, 10, false}, {node{Op: 1, I: -1}, 6, 6, 10, false}, {node{Op: 1, I: 1, N: words(1)}, 6, 6, 10, false}, {node{Op: 2, I: 1}, 6, 6, 10, false}, {node{Op: 2, I: -1}, 6, 6, 10, false}, {node{Op: 6, I: 1}, 6, 6, 10, false}, {node{Op: 6, I: -1}, 6, 6, 10, false}, {node{Op: 7, I: 1}, 6, 6, 10, false}, {node{Op: 8, I: -1}, 6, 6, 10, false}, {node{Op: 9, I: 1}, 6, 6, 10, false}, {node{Op: 10, I: -1}, 6, 6, 10, false}, {node{Op: 10, I: math.MinInt}, 6, 6, 10, false},
		// N of Const.
		{node{Op: 1, N: words()}, 0, 0, 0, true}, {node{Op: 1, N: words(1)}, 0, 0, 0, true}, {node{Op: 1, N: words(0)}, 0, 0, 0, false}, {node{Op: 1, N: words(0, 1)}, 0, 0, 0, true}, {node{Op: 1, N: words(1, 0)}, 0, 0, 0, false}, {node{Op: 1, N: words(0, 0)}, 0, 0, 0, false}, {node{Op: 1, N: words(1, 2, 3)}, 0, 0, 0, true}, {node{Op: 1, N: words(1, 2, 3, 0)}, 0, 0, 0, false}, {node{Op: 1, N: words(0, 0, 0, 0, 0, 0, 1)}, 0, 0, 0, true}, {node{Op: 1, N: words(0, 0, 0, 0, 0, 0, 0, 1)}, 0, 0, 0, false},
		{node{Op: 1, N: power(60, -1)}, 0, 0, 0, true}, {node{Op: 1, N: power(60, 0)}, 0, 0, 0, false}, {node{Op: 1, N: power(59, 0)}, 0, 0, 0, true}, {node{Op: 1, N: append(power(60, -1), 0)}, 0, 0, 0, false},
		// N of others.
		{node{Op: 2, N: words()}, 0, 0, 0, true}, {node{Op: 2, N: words(0)}, 0, 0, 0, false}, {node{Op: 2, N: words(1)}, 0, 0, 0, false}, {node{Op: 3, N: words(1)}, 1, 1, 1, false}, {node{Op: 4, N: words(1)}, 1, 1, 1, false}, {node{Op: 5, N: words(1)}, 1, 1, 1, false}, {node{Op: 6, N: words(0)}, 1, 1, 1, false}, {node{Op: 7, N: words(7, 7)}, 1, 1, 1, false}, {node{Op: 10, N: words(1)}, 1, 1, 1, false}, {node{Op: 11, N: words(1)}, 1, 1, 1, false}, {node{Op: 11, I: 2, N: words(0)}, 1, 1, 1, false}, {node{N: words(1)}, 1, 1, 1, false},
	} {
		checkNode(t, c.n, c.dim, c.pars, c.lets, c.want)
		if mayBe(c.n, c.dim, c.pars, c.lets) != c.want {
			t.Fatalf("mayBe(%v, %d, %d, %d)", c.n, c.dim, c.pars, c.lets)
		}
	}
}

// Each operation, and each number of none, with I and N of all kinds, where there are so many of one thing and another number of the others.
func TestNodeOfAllKinds(t *testing.T) {
	numbers := [][]uint32{nil, {}, {0}, {1}, {1, 0}, {0, 1}, {0, 0, 0}, power(60, -1), power(60, 0)}
	for _, op := range slices.Concat(allOps, noOps()) {
		for _, n := range numbers {
			for _, i := range slices.Concat(edges, []int{4, 8, 9, -8, -9, -7, -10, -11}) {
				for _, count := range edges {
					a := node{Op: op, I: i, N: n}
					checkNode(t, a, count, 2, 3, mayBe(a, count, 2, 3))
					checkNode(t, a, 2, count, 3, mayBe(a, 2, count, 3))
					checkNode(t, a, 3, 2, count, mayBe(a, 3, 2, count))
				}
			}
		}
	}
}

func TestNodeOfEachPlace(t *testing.T) {
	for count := -3; count <= 20; count++ {
		for i := -25; i <= 25; i++ {
			for _, op := range allOps {
				a := node{Op: op, I: i}
				for _, others := range []int{-1, 0, 30} {
					checkNode(t, a, count, others, others, mayBe(a, count, others, others))
					checkNode(t, a, others, count, others, mayBe(a, others, count, others))
					checkNode(t, a, others, others, count, mayBe(a, others, others, count))
				}
			}
		}
	}
}

// Numbers of each length, and those beside the greatest one that may be.
func TestDigitsOfConst(t *testing.T) {
	ask := func(n []uint32, want bool) {
		t.Helper()
		checkNode(t, node{Op: 1, N: n}, 0, 0, 0, want)
		checkNode(t, node{Op: 1, N: append(slices.Clone(n), 0)}, 0, 0, 0, false)
		checkNode(t, node{Op: 1, N: append(slices.Clone(n), 0, 0, 0)}, 0, 0, 0, false)
		checkNode(t, node{Op: 1, I: 1, N: n}, 2, 2, 2, false)
		if shortNumber(n) != want {
			t.Fatalf("shortNumber(%v)", n)
		}
		for _, op := range append(noOps(), allOps[1:]...) {
			checkNode(t, node{Op: op, N: n}, 1, 1, 1, len(n) == 0 && slices.Contains(allOps, op))
		}
	}
	ask(nil, true)
	for e := range 200 {
		for _, more := range []int64{-2, -1, 0, 1, 12345} {
			if e > 4 || more >= 0 {
				ask(power(e, more), e < maxDigits || e == maxDigits && more < 0)
			}
		}
	}
	top := power(60, -1)
	for i := range top {
		for _, by := range []uint32{1, 1 << 16, 1 << 31} {
			n := slices.Clone(top)
			n[i] += by
			ask(n, shortNumber(n))
			n[i] -= 2 * by
			ask(n, shortNumber(n))
		}
	}
	for bits := range 300 {
		n := append(make([]uint32, bits/32), 1<<(bits%32))
		ask(n, bits <= 199)
		if bits%32 > 0 {
			n[bits/32]--
			for i := range bits / 32 {
				n[i] = math.MaxUint32
			}
			ask(n, bits <= 199)
		}
	}
}

// A number of very many words is refused without its digits being told.
func TestLongNumbers(t *testing.T) {
	long := slices.Repeat(words(7), 4000000)
	for _, size := range []int{7, 8, 9, 59, 60, 61, 62, 1000, len(long)} {
		a := node{Op: 1, N: long[:size]}
		checkNode(t, a, 1, 1, 1, size <= 7 && shortNumber(a.N))
		checkNode(t, node{Op: 2, N: long[:size]}, 1, 1, 1, false)
		checkPlace(t, []node{{Op: 2}, a, {Op: 7}}, 1, 1, 1, place([]node{{Op: 2}, {Op: 1, N: a.N[:min(size, 8)]}, {Op: 7}}, 1, 1, 1))
	}
	noughts := make([]uint32, len(long))
	checkNode(t, node{Op: 1, N: noughts}, 1, 1, 1, false)
	noughts[0] = 1
	checkNode(t, node{Op: 1, N: noughts}, 1, 1, 1, false)
	checkField(t, field{Outs: [][]node{slices.Repeat([]node{{Op: 1, N: long}}, 300)}}, 1, 0, placed(1, 0))
}

func TestPlaceTable(t *testing.T) {
	state, par, third := node{Op: 3, I: 1}, node{Op: 4, I: 1}, node{Op: 5, I: 2}
	for _, c := range []struct {
		code            []node
		dim, pars, lets int
		want            int
	}{
		{nil, 1, 1, 1, 0},
		{[]node{}, 1, 1, 1, 0},
		{nodes(2), 0, 0, 0, -1},
		{nodes(2, 6), 0, 0, 0, -1},
		{nodes(2, 1, 7), 0, 0, 0, -1},
		{nodes(2, 11), 0, 0, 0, -1},
		// One that may not be alone, and one that may, where there are enough.
		{[]node{state}, 1, 9, 9, 0}, {[]node{state}, 2, 0, 0, -1},
		{[]node{par}, 9, 1, 9, 0}, {[]node{par}, 0, 2, 0, -1},
		{[]node{third}, 9, 9, 2, 0}, {[]node{third}, 0, 0, 3, -1},
		{[]node{state, par, third, {Op: 7}, {Op: 8}}, 2, 2, 3, -1},
		{[]node{state, par, third, {Op: 7}, {Op: 8}}, 2, 2, 2, 2},
		{[]node{state, par, third, {Op: 7}, {Op: 8}}, 2, 1, 2, 1},
		{[]node{state, par, third, {Op: 7}, {Op: 8}}, 1, 1, 2, 0},
		{[]node{state, par, third, {Op: 7}, {Op: 8}}, 1, 2, 3, 0},
		{[]node{state, par, third, {Op: 7}, {Op: 8, I: 1}}, 2, 2, 3, 4},
		{[]node{state, par, third, {Op: 7, N: words(1)}, {Op: 8, I: 1}}, 2, 2, 3, 3},
		{[]node{{Op: 2}, {Op: 11, I: 9}}, 0, 0, 0, 1},
		{[]node{{Op: 2}, {Op: 11, I: -9}, {Op: 6}}, 0, 0, 0, 1},
		{[]node{{Op: 1, N: words(3, 0)}, {Op: 6}}, 0, 0, 0, 0},
		{[]node{{Op: 2}, {Op: 1, N: power(60, 0)}, {Op: 7}}, 0, 0, 0, 1},
		// No operation.
		{nodes(0), 1, 1, 1, 0}, {nodes(12), 1, 1, 1, 0}, {nodes(2, 0), 1, 1, 1, 1}, {nodes(2, 1, 12), 1, 1, 1, 2},
		// Operands that are wanted, and that are left over.
		{nodes(6), 0, 0, 0, 0}, {nodes(7), 0, 0, 0, 0}, {nodes(2, 7), 0, 0, 0, 1}, {nodes(2, 1, 7, 8), 0, 0, 0, 3}, {nodes(2, 1), 0, 0, 0, 2}, {nodes(2, 1, 1, 7), 0, 0, 0, 4}, {nodes(2, 2, 2, 2, 2), 0, 0, 0, 5}, {nodes(2, 7, 7), 0, 0, 0, 1},
		// One that may not be ahead of, at and behind the place at which operands are wanted.
		{[]node{state, {Op: 7}, {Op: 2}}, 1, 0, 0, 0}, {[]node{{Op: 2}, {Op: 7, I: 1}, {Op: 2}}, 1, 0, 0, 1}, {[]node{{Op: 2}, {Op: 7}, state}, 1, 0, 0, 1}, {[]node{{Op: 7}, state, {Op: 0}}, 1, 0, 0, 0},
		{[]node{{Op: 2}, {Op: 6, I: 1}, {Op: 9}}, 1, 0, 0, 1}, {[]node{{Op: 2}, {Op: 0}, {Op: 6, I: 1}}, 1, 0, 0, 1}, {[]node{{Op: 2, I: 1}, {Op: 0}}, 1, 0, 0, 0},
		// One that may not be, and operands that are left over.
		{[]node{{Op: 2}, state}, 1, 0, 0, 1}, {[]node{state, {Op: 2}}, 1, 0, 0, 0}, {[]node{{Op: 2}, {Op: 2}, {Op: 6, N: words(0)}}, 1, 0, 0, 2}, {[]node{state, state, state}, 2, 0, 0, 3},
		// Two that may not be.
		{[]node{{Op: 2}, state, par, {Op: 7}, {Op: 7}}, 1, 1, 0, 1}, {[]node{{Op: 2}, par, state, {Op: 7}, {Op: 7}}, 1, 1, 0, 1},
		// Components, parameters and lets below none, and beyond what a field may have.
		{nodes(3), -1, 1, 1, 0}, {nodes(4), 1, math.MinInt, 1, 0}, {nodes(2), -1, -1, -1, -1}, {[]node{{Op: 5, I: 299}}, -1, -1, 300, -1}, {[]node{{Op: 3, I: 6}}, 7, 0, 0, -1},
	} {
		checkPlace(t, c.code, c.dim, c.pars, c.lets, c.want)
		if place(c.code, c.dim, c.pars, c.lets) != c.want {
			t.Fatalf("place(%v, %d, %d, %d)", c.code, c.dim, c.pars, c.lets)
		}
	}
}

// All lists of up to five nodes, of each arity such as may be and such as may not.
func TestPlaceOfAllShortLists(t *testing.T) {
	kinds := []node{{Op: 2}, {Op: 3, I: 1}, {Op: 4, I: 1}, {Op: 5, I: 1}, {Op: 1, N: words(0)}, {Op: 6}, {Op: 11, I: 9}, {Op: 7}, {Op: 10, N: words(1)}, {Op: 12}}
	var grow func(code []node, left int)
	grow = func(code []node, left int) {
		checkPlace(t, code, 2, 2, 2, place(code, 2, 2, 2))
		checkPlace(t, code, 1, 2, 2, place(code, 1, 2, 2))
		checkPlace(t, code, 2, 1, 2, place(code, 2, 1, 2))
		checkPlace(t, code, 2, 2, 1, place(code, 2, 2, 1))
		if left == 0 {
			return
		}
		for _, n := range kinds {
			grow(append(slices.Clone(code), n), left-1)
		}
	}
	grow(nil, 5)
}

// spoilt are nodes that may not be, of each arity, where there is one component, one parameter and one let.
var spoilt = []node{{Op: 3, I: 1}, {Op: 4, I: 1}, {Op: 5, I: 1}, {Op: 5, I: -1}, {Op: 2, I: 1}, {Op: 1, N: []uint32{0}}, {Op: 6, I: -1}, {Op: 11, I: 9}, {Op: 7, I: 1}, {Op: 9, N: []uint32{1}}, {Op: 0}, {Op: 12}}

// In an expression a node is put in, taken out, or made into another one, at each place, and at two.
func TestPlaceAtEachPlace(t *testing.T) {
	for _, code := range [][]node{chain(9), toTheLeft(6), toTheRight(6), bushy(20)} {
		checkPlace(t, code, 1, 1, 1, -1)
		for i := range code {
			gone := slices.Delete(slices.Clone(code), i, i+1)
			checkPlace(t, gone, 1, 1, 1, place(gone, 1, 1, 1))
			checkPlace(t, code[:i], 1, 1, 1, place(code[:i], 1, 1, 1))
			for _, n := range append(nodes(2, 6, 8), spoilt...) {
				more := slices.Insert(slices.Clone(code), i, n)
				checkPlace(t, more, 1, 1, 1, place(more, 1, 1, 1))
				other := slices.Clone(code)
				other[i] = n
				checkPlace(t, other, 1, 1, 1, place(other, 1, 1, 1))
				for j := range other {
					twice := slices.Clone(other)
					twice[j] = spoilt[(i+j)%len(spoilt)]
					checkPlace(t, twice, 1, 1, 1, place(twice, 1, 1, 1))
				}
			}
		}
	}
}

func TestPlaceOfManyNodes(t *testing.T) {
	for _, size := range []int{40, 41, 299, 300, 301, 20000} {
		for _, code := range [][]node{chain(size), toTheLeft(size), toTheRight(size), bushy(size)} {
			checkPlace(t, code, 0, 0, 0, -1)
			checkPlace(t, append(code[:len(code):len(code)], node{Op: 2}), 0, 0, 0, len(code)+1)
			for _, i := range []int{0, 1, len(code) / 2, len(code) - 1} {
				other := slices.Clone(code)
				other[i].I = 9
				checkPlace(t, other, 0, 0, 0, i)
				other[len(code)-1].N = words(1)
				checkPlace(t, other, 0, 0, 0, i)
				other[0].Op = 12
				checkPlace(t, other, 0, 0, 0, 0)
			}
		}
	}
}

// letters are n bytes of a name.
func letters(n int) string { return strings.Repeat("kX_7wQ0vf9Zt_3", n/14+1)[:n] }

func TestNameTable(t *testing.T) {
	for _, s := range []string{"a", "z", "A", "Z", "_", "__", "a1", "a_", "_1", "T", "Y", "P", "Let", "LET", "leT", "tt", "ty", "yt", "yp", "pp", "t1", "y0", "p_", "_t", "at", "lets", "let_", "let1", "_let", "le", "lett", "letlet", "e", "et", "k", "ab", "Ab9_", letters(11), letters(12), strings.Repeat("t", 12), strings.Repeat("_", 12), strings.Repeat("A", 12), "lettlettlett"} {
		checkName(t, s, true)
	}
	for _, s := range []string{"", "t", "y", "p", "let", "1", "12", "1a", "0_", "+", "-", "*", "/", "^", "(", ")", "[", "]", ",", ";", "=", "a+", "+a", "a b", "ab cd", " ", " a", "a ", "\ta", "a\n", "a\r", "\na", "#", "a#", "#a", "a #b", " t", "t ", "let ", " let", "t t", "let a", "y[0]", "a$", "$", "a.b", "a-b", "a\x00", "\x00", "\x00a", "\xff", "a\xff", "é", "aé", "ä", "ａ", "a\u0301", "\u00a0a", letters(13), letters(14), strings.Repeat("a", 24), strings.Repeat("t", 13), letters(12) + " ", letters(100000), "lettlettlettl"} {
		checkName(t, s, false)
	}
}

// Each byte alone, and within others; all texts of up to four bytes made of some.
func TestNameOfBytes(t *testing.T) {
	ask := func(s string) {
		t.Helper()
		checkName(t, s, isName(s))
	}
	for c := range 256 {
		b := string([]byte{byte(c)})
		for _, s := range []string{b, b + "a", "a" + b, "a" + b + "a", "t" + b, b + "t", "le" + b, "l" + b + "t", "let" + b, b + "let", b + b, letters(11) + b, b + letters(11), letters(12) + b, letters(5) + b + letters(5)} {
			ask(s)
		}
	}
	alphabet := "letypa_1 +\x80"
	var grow func(s string, left int)
	grow = func(s string, left int) {
		ask(s)
		if left > 0 {
			for i := range len(alphabet) {
				grow(s+alphabet[i:i+1], left-1)
			}
		}
	}
	grow("", 4)
	for size := range 30 {
		checkName(t, letters(size), 1 <= size && size <= maxName)
		checkName(t, strings.Repeat("9", size), false)
	}
}

func TestCheckTable(t *testing.T) {
	for _, c := range []struct {
		s         string
		dim, pars int
		want      api.Fault
	}{
		{"[1]", 1, 0, none}, {"[t]", 1, 0, none}, {"[y[0]]", 1, 0, none}, {"[p[0]]", 1, 1, none}, {"[-t^2/3]", 1, 0, none}, {"[1]", 1, 6, none},
		{"[1,2,3,4,5,6]", 6, 0, none}, {"[y[5],y[4],y[3],y[2],y[1],y[0]]", 6, 0, none}, {"[p[5],1]", 2, 6, none}, {"[t^8,t^-8,t^0]", 3, 0, none},
		// As many components as there are outs, and no more; parameters as they are told.
		{"[y[0],y[1]]", 2, 0, none}, {"[y[0],y[2]]", 2, 6, placed(2, 0)}, {"[y[2],y[0]]", 2, 6, placed(1, 0)}, {"[1,t,2*y[3]]", 3, 6, placed(3, 1)}, {"[p[0]]", 1, 0, placed(1, 0)}, {"[p[0]+p[1]]", 1, 1, placed(1, 1)}, {"[p[5]]", 1, 5, placed(1, 0)}, {"[p[6]]", 1, 6, placed(1, 0)}, {"[y[6],1,1,1,1,1]", 6, 6, placed(1, 0)}, {"[y[999]]", 1, 6, placed(1, 0)},
		// Lets: none, one, that name others.
		{"let a=1;[a]", 1, 0, none}, {"let a=1;[t]", 1, 0, none}, {"let a=1;let b=a;[b]", 1, 0, none}, {"let a=1;let b=2;let c=a*b;[c-a,b]", 2, 0, none}, {"let a=y[0];let b=p[0];[a*b]", 1, 1, none},
		{"[a]", 1, 0, placed(1, 0)}, {"[1+a]", 1, 0, placed(1, 1)}, {"let a=1;[b]", 1, 0, placed(2, 0)}, {"let a=1;[a,a*b]", 2, 0, placed(3, 1)},
		{"let a=a;[1]", 1, 0, placed(1, 0)}, {"let a=1+a;[1]", 1, 0, placed(1, 1)}, {"let a=b;let b=1;[1]", 1, 0, placed(1, 0)}, {"let a=1;let b=c;let c=1;[1]", 1, 0, placed(2, 0)}, {"let a=1;let b=2-b;[b]", 1, 0, placed(2, 1)},
		// Names.
		{"let a=1;let a=2;[a]", 1, 0, named(2)}, {"let a=1;let b=2;let a=3;[a]", 1, 0, named(3)}, {"let a=1;let b=2;let b=3;[a]", 1, 0, named(3)}, {"let a=1;let a=2;let a=3;[1]", 1, 0, named(2)}, {"let a=1;let b=1;let b=1;let a=1;[1]", 1, 0, named(3)}, {"let a=1;let A=2;[a-A]", 1, 0, none}, {"let T=1;let Y=2;let P=3;let Let=4;[T]", 1, 0, none},
		// A name and its expression, and another part's.
		{"let a=1;let a=y[1];[1]", 1, 0, named(2)}, {"let a=y[1];let a=1;[1]", 1, 0, placed(1, 0)}, {"let a=1;let b=y[1];let a=1;[1]", 1, 0, placed(2, 0)}, {"let a=1;let a=1;[y[1]]", 1, 0, named(2)}, {"let a=p[0];[y[1]]", 1, 0, placed(1, 0)}, {"let a=1;let b=t+t^9;[y[1],y[2]]", 2, 0, placed(2, 2)},
		// Exponents.
		{"[t^9]", 1, 0, placed(1, 1)}, {"[t^-9]", 1, 0, placed(1, 1)}, {"[t^8*t^9]", 1, 0, placed(1, 3)}, {"[t^999]", 1, 0, placed(1, 1)},
		// The whole: ahead of any part.
		{"[1]", 0, 0, whole}, {"[1]", 2, 0, whole}, {"[1,1]", 1, 0, whole}, {"[1]", -1, 0, whole}, {"[1]", 1, -1, whole}, {"[1]", 1, 7, whole}, {"[1,2,3,4,5,6,7]", 7, 0, whole}, {"[1,2,3,4,5,6,7]", 6, 0, whole}, {"[1]", math.MaxInt, 0, whole}, {"[1]", math.MinInt, 0, whole}, {"[1]", 1, math.MaxInt, whole}, {"[1]", 1, math.MinInt, whole}, {"[1]", 1 + 1<<32, 0, whole}, {"[1]", 1, 1 << 32, whole},
		{"[y[1]]", 2, 0, whole}, {"let a=1;let a=y[9];[y[1]]", 1, 7, whole}, {"let a=a;[1]", 3, 0, whole}, {"[t^9]", 1, -1, whole},
	} {
		f := read(t, c.s)
		checkField(t, f, c.dim, c.pars, c.want)
		checkFirst(t, f, c.dim, c.pars)
	}
}

// All fields of few lets and outs, with counts of each kind; some have other expressions.
func TestCheckOfTheWhole(t *testing.T) {
	counts := []int{-7, -1, 0, 1, 2, 3, 4, 5, 6, 7, 8, 100, math.MaxInt, math.MinInt, 1 << 32, 6 + 1<<32}
	for lets := range 13 {
		for outs := range 9 {
			f := plain(lets, outs)
			g := deep(f)
			for i := range g.Outs {
				g.Outs[i][0].I = i + 1
			}
			h := deep(f)
			for i := range h.Lets {
				h.Lets[i].Name = "let"
			}
			for _, dim := range counts {
				for _, pars := range counts {
					want := whole
					if 1 <= dim && dim <= 6 && dim == outs && 0 <= pars && pars <= 6 && lets <= 10 {
						want = none
					}
					checkField(t, f, dim, pars, want)
					if want == whole {
						checkField(t, g, dim, pars, whole)
						checkField(t, h, dim, pars, whole)
						continue
					}
					checkField(t, g, dim, pars, placed(lets+outs, 0))
					if lets > 0 {
						checkField(t, h, dim, pars, named(1))
					}
				}
			}
		}
	}
}

// As many nodes as may be, and one more, in all ways shared out among parts.
func TestCheckOfManyNodes(t *testing.T) {
	for lets := range maxLets + 1 {
		for dim := 1; dim <= maxDim; dim++ {
			for _, size := range []int{299, 300, 301, 302, 600} {
				for great := 1; great <= lets+dim; great++ {
					f := plain(lets, dim)
					for part := 1; part <= lets+dim; part++ {
						*code(&f, part) = nodes(2)
					}
					*code(&f, great) = bushy(size - lets - dim + 1)
					want := none
					if size > 300 {
						want = whole
					}
					checkField(t, f, dim, 0, want)
					*code(&f, lets+dim) = append(*code(&f, lets+dim), node{Op: 11, I: 99})
					if size > 299 {
						checkField(t, f, dim, 0, whole)
					} else {
						checkField(t, f, dim, 0, placed(lets+dim, len(*code(&f, lets+dim))-1))
					}
				}
			}
		}
	}
	// Shared out evenly; too many lets or outs are no better for having few nodes.
	even := plain(10, 5)
	for part := 1; part <= 15; part++ {
		*code(&even, part) = bushy(20)
	}
	checkField(t, even, 5, 6, none)
	for part := 1; part <= 15; part++ {
		more := deep(even)
		*code(&more, part) = bushy(21)
		checkField(t, more, 5, 6, whole)
	}
	for _, size := range []int{301, 1000, 50000} {
		checkField(t, field{Outs: [][]node{bushy(size)}}, 1, 0, whole)
		checkField(t, field{Outs: [][]node{slices.Repeat(nodes(12), size)}}, 1, 0, whole)
		checkField(t, field{Lets: slices.Repeat([]let{{}}, size), Outs: [][]node{nodes(2)}}, 1, 0, whole)
		checkField(t, field{Outs: make([][]node, size)}, size, 0, whole)
	}
}

func TestCheckOfEmptyOnes(t *testing.T) {
	checkField(t, field{}, 0, 0, whole)
	checkField(t, field{}, 1, 0, whole)
	checkField(t, field{Outs: [][]node{nil}}, 1, 0, placed(1, 0))
	checkField(t, field{Outs: [][]node{{}}}, 1, 0, placed(1, 0))
	checkField(t, field{Lets: []let{}, Outs: [][]node{nodes(2)}}, 1, 0, none)
	checkField(t, field{Lets: []let{{}}, Outs: [][]node{nodes(2)}}, 1, 0, named(1))
	checkField(t, field{Lets: []let{{Name: "a"}}, Outs: [][]node{nodes(2)}}, 1, 0, placed(1, 0))
	checkField(t, field{Lets: []let{{Code: nodes(2)}}, Outs: [][]node{nodes(2)}}, 1, 0, named(1))
	checkField(t, field{Lets: []let{letOf("a", nodes(2))}, Outs: [][]node{nil}}, 1, 0, placed(2, 0))
	checkField(t, field{Outs: [][]node{nodes(2), nil, nodes(2)}}, 3, 0, placed(2, 0))
}

// Names that are none, and names twice, at each place among lets.
func TestCheckOfNames(t *testing.T) {
	for n := 1; n <= maxLets; n++ {
		for i := range n {
			for _, name := range []string{"", "t", "y", "p", "let", "1", "a b", "a ", "+", letters(13), "é", "n0\x00"} {
				f := plain(n, 2)
				f.Lets[i].Name = name
				checkField(t, f, 2, 0, named(i+1))
				f.Lets[i].Code = nil
				checkField(t, f, 2, 0, named(i+1))
				f.Outs[1] = nil
				checkField(t, f, 2, 0, named(i+1))
			}
			for j := range n {
				f := plain(n, 2)
				f.Lets[i].Name = f.Lets[j].Name
				want := none
				if i != j {
					want = named(max(i, j) + 1)
				}
				checkField(t, f, 2, 0, want)
				// A letter more, and letters of the other case.
				f.Lets[i].Name += "_"
				checkField(t, f, 2, 0, none)
				f.Lets[i].Name = strings.ToUpper(f.Lets[j].Name)
				checkField(t, f, 2, 0, none)
			}
		}
	}
	// All are alike: the second one is told, be it a name or none.
	f := plain(maxLets, 1)
	for i := range f.Lets {
		f.Lets[i].Name = letters(12)
	}
	checkField(t, f, 1, 0, named(2))
	for i := range f.Lets {
		f.Lets[i].Name = letters(13)
	}
	checkField(t, f, 1, 0, named(1))
	for i, name := range names(maxLets) {
		f.Lets[i].Name = letters(12-len(name)) + name
	}
	checkField(t, f, 1, 0, none)
}

// Each part names each let: those ahead of it may be named, itself and those behind it not.
func TestCheckOfLetsThatAreNamed(t *testing.T) {
	for n := range maxLets + 1 {
		for dim := 1; dim <= 3; dim++ {
			for part := 1; part <= n+dim; part++ {
				for i := -1; i <= n+1; i++ {
					f := plain(n, dim)
					*code(&f, part) = []node{{Op: 1}, {Op: 5, I: i}, {Op: 7}}
					want := placed(part, 1)
					if 0 <= i && i < min(part-1, n) {
						want = none
					}
					checkField(t, f, dim, 0, want)
				}
			}
		}
	}
}

// Expressions as deep as may be, and deeper ones, as each part.
func TestCheckOfDepths(t *testing.T) {
	for _, deepOnes := range []func(depth int) []node{chain, toTheLeft, toTheRight} {
		for depth := 1; depth <= 60; depth++ {
			expr := deepOnes(depth)
			for _, lets := range []int{0, 1, 3} {
				for part := 1; part <= lets+2; part++ {
					f := plain(lets, 2)
					*code(&f, part) = expr
					want := none
					if depth > maxDepth {
						want = placed(part, len(expr))
					}
					checkField(t, f, 2, 0, want)
				}
			}
		}
	}
	f := field{Outs: [][]node{chain(40)}}
	checkField(t, f, 1, 0, none)
	f.Outs[0] = chain(41)
	checkField(t, f, 1, 0, api.Fault{Kind: api.Form, Step: 1, At: 41})
	f.Outs[0] = toTheLeft(41)
	checkField(t, f, 1, 0, api.Fault{Kind: api.Form, Step: 1, At: 81})
	// Within an expression the deep operand is the first, or the second.
	f.Outs[0] = slices.Concat(chain(40), nodes(2, 7))
	checkField(t, f, 1, 0, placed(1, 42))
	f.Outs[0] = slices.Concat(nodes(2), chain(40), nodes(7))
	checkField(t, f, 1, 0, placed(1, 42))
	f.Outs[0] = slices.Concat(chain(39), chain(39), nodes(7))
	checkField(t, f, 1, 0, none)
	// Lets that name lets are no deeper for that.
	f = field{Lets: []let{letOf("a", chain(40)), letOf("b", append([]node{{Op: 5}}, chain(40)[1:]...))}, Outs: [][]node{append([]node{{Op: 5, I: 1}}, chain(40)[1:]...)}}
	checkField(t, f, 1, 0, none)
	// A place goes ahead of the depth, wherever it is.
	for i := range 45 {
		deepOne := chain(45)
		deepOne[i].I = 9
		checkField(t, field{Outs: [][]node{nodes(2), deepOne}}, 2, 0, placed(2, i))
	}
	checkField(t, field{Outs: [][]node{append(chain(45), node{Op: 2})}}, 1, 0, placed(1, 46))
	checkField(t, field{Outs: [][]node{append(chain(45), node{Op: 7})}}, 1, 0, placed(1, 45))
}

// defect makes something of a part wrong.
type defect struct {
	lets  bool // whether it is one of lets alone
	spoil func(f *field, part int)
}

func defects() []defect {
	l := []defect{
		{true, func(f *field, part int) { f.Lets[part-1].Name = "t" }},
		{true, func(f *field, part int) { f.Lets[part-1].Name = letters(13) }},
		{true, func(f *field, part int) { f.Lets[part-1].Name = f.Lets[0].Name }},
		{true, func(f *field, part int) { f.Lets[part-1].Name = f.Lets[len(f.Lets)-1].Name }},
		{true, func(f *field, part int) { (*code(f, part))[0] = node{Op: 5, I: part - 1} }},
		{true, func(f *field, part int) { (*code(f, part))[0] = node{Op: 5, I: len(f.Lets) - 1} }},
	}
	for _, change := range []func(l []node) []node{
		func(l []node) []node { l[0] = node{Op: 3, I: 2}; return l },
		func(l []node) []node { l[1] = node{Op: 4, I: 1}; return l },
		func(l []node) []node { l[1].N = words(1, 0); return l },
		func(l []node) []node { l[2].I = 1; return l },
		func(l []node) []node { return append(l, node{Op: 11, I: -9}) },
		func(l []node) []node { return append(l, node{Op: 12}) },
		func(l []node) []node { return append(l, node{Op: 7}) },
		func(l []node) []node { return append(l, node{Op: 1}) },
		func(l []node) []node { return l[1:] },
		func(l []node) []node { return nil },
		func(l []node) []node { return append(l, chain(40)[1:]...) },
		func(l []node) []node { return slices.Concat(toTheRight(39), l, nodes(7)) },
	} {
		l = append(l, defect{false, func(f *field, part int) { *code(f, part) = change(*code(f, part)) }})
	}
	return l
}

// Of two defects, in one part or in two, the one that the chapter names first is told.
func TestCheckOfTwoDefects(t *testing.T) {
	told := map[api.Fault]bool{}
	const lets, dim = 3, 2
	each := func(ask func(d defect, part int)) {
		for _, d := range defects() {
			for part := 1; part <= lets+dim; part++ {
				if !d.lets || part <= lets {
					ask(d, part)
				}
			}
		}
	}
	each(func(d defect, part int) {
		each(func(e defect, other int) {
			f := plain(lets, dim)
			d.spoil(&f, part)
			// Where nothing is left of an expression, nothing more can be made wrong with it.
			if len(*code(&f, other)) < 3 && part == other {
				return
			}
			e.spoil(&f, other)
			checkFirst(t, f, dim, 1)
			told[check.Check(f, dim, 1)] = true
			checkField(t, f, dim, 7, whole)
			checkField(t, f, dim+1, 1, whole)
		})
	})
	for _, want := range []api.Fault{named(1), named(2), named(3), placed(1, 0), placed(3, 2), placed(4, 1), placed(5, 3), placed(5, 4), placed(2, 42)} {
		if !told[want] {
			t.Errorf("of no field %v was told", want)
		}
	}
}

// chance tells numbers without a pattern; they are the same for the same seed.
type chance uint32

func (c *chance) below(n int) int {
	*c ^= *c << 13
	*c ^= *c >> 17
	*c ^= *c << 5
	return int(*c>>8) % n
}

// someCode is an expression, hardly ever one that may not be.
func someCode(c *chance, size, dim, pars, lets int) []node {
	if size <= 1 {
		n := node{Op: leaves[c.below(5)]}
		switch count := []int{0, 0, 0, dim, pars, lets}[n.Op]; {
		case n.Op == 1:
			n.N = power(c.below(61), -1)
		case n.Op > 2 && c.below(40) == 0:
			n.I = count
		case n.Op > 2 && count == 0:
			n = node{Op: 2}
		case n.Op > 2:
			n.I = c.below(count)
		}
		return []node{n}
	}
	if size == 2 || c.below(3) == 0 {
		n := node{Op: ones[c.below(2)]}
		if n.Op == 11 {
			n.I = c.below(17) - 8
		}
		return append(someCode(c, size-1, dim, pars, lets), n)
	}
	first := 1 + c.below(size-2)
	return slices.Concat(someCode(c, first, dim, pars, lets), someCode(c, size-1-first, dim, pars, lets), nodes(twos[c.below(4)]))
}

func someField(c *chance, dim, pars int) field {
	var f field
	pool := []string{"a", "b", "c", "d", "e", "Y", "T", "_", "a1", "t_", "p2", "lets", letters(12)}
	from := c.below(len(pool))
	for i := range c.below(maxLets + 1) {
		name := pool[(from+i)%len(pool)]
		if c.below(60) == 0 {
			name = append(pool, "t", "let", "", letters(13))[c.below(len(pool)+4)]
		}
		f.Lets = append(f.Lets, letOf(name, someCode(c, 1+c.below(25), dim, pars, i)))
	}
	for range dim {
		f.Outs = append(f.Outs, someCode(c, 1+c.below(60), dim, pars, len(f.Lets)))
	}
	return f
}

func TestCheckOfSomeFields(t *testing.T) {
	c := chance(19)
	may, told := 0, map[bool]int{}
	for range 2000 {
		dim, pars := 1+c.below(6), c.below(7)
		f := someField(&c, dim, pars)
		checkFirst(t, f, dim, pars)
		fault := check.Check(f, dim, pars)
		if fault == none {
			may++
		} else {
			told[fault == whole]++
		}
		for other := range 9 {
			checkFirst(t, f, dim, other-1)
			checkFirst(t, f, other-1, pars)
		}
		checkFirst(t, f, c.below(8), c.below(8))
	}
	if may < 250 || told[false] < 250 || told[true] < 25 {
		t.Errorf("%d fields may be; %v", may, told)
	}
}

// Of parts without a pattern, too, what is told is the first that the chapter names.
func TestCheckOfNoise(t *testing.T) {
	c := chance(77)
	ops := slices.Concat(allOps, leaves, leaves, noOps())
	noise := func() []node {
		var l []node
		for range c.below(9) {
			n := node{Op: ops[c.below(len(ops)-c.below(2)*len(noOps()))], I: []int{0, 0, 0, 1, -1, 9}[c.below(6)]}
			if n.Op == 1 || c.below(9) == 0 {
				n.N = [][]uint32{nil, {1}, {0}, {5, 6}, power(60, 0)}[c.below(5)]
			}
			l = append(l, n)
		}
		return l
	}
	for range 30000 {
		var f field
		for range c.below(3) {
			f.Lets = append(f.Lets, letOf([]string{"a", "b", "c", "", "t"}[c.below(5)], noise()))
		}
		for range c.below(3) {
			f.Outs = append(f.Outs, noise())
		}
		checkFirst(t, f, c.below(3), c.below(3))
		checkFirst(t, f, len(f.Outs), c.below(7))
		for _, expr := range f.Outs {
			dim, pars, lets := c.below(4)-1, c.below(4)-1, c.below(4)-1
			checkPlace(t, expr, dim, pars, lets, place(expr, dim, pars, lets))
		}
	}
}

// What may be for some numbers may be for greater ones.
func TestWhatFollowsForNodesAndExpressions(t *testing.T) {
	c := chance(193)
	for range 20000 {
		dim, pars, lets := c.below(4), c.below(4), c.below(4)
		expr := someCode(&c, 1+c.below(12), dim, pars, lets)
		if c.below(3) == 0 {
			expr[c.below(len(expr))] = spoilt[c.below(len(spoilt))]
		}
		at := check.Place(expr, dim, pars, lets)
		for _, by := range [][3]int{{1, 0, 0}, {0, 1, 0}, {0, 0, 1}, {1, 1, 1}, {100, 0, 7}, {math.MaxInt - 9, math.MaxInt - 9, math.MaxInt - 9}} {
			for _, n := range expr {
				if check.Node(n, dim, pars, lets) && !check.Node(n, dim+by[0], pars+by[1], lets+by[2]) {
					t.Fatalf("%v may be for %d, %d, %d, but not for %v more", n, dim, pars, lets, by)
				}
			}
			more := check.Place(expr, dim+by[0], pars+by[1], lets+by[2])
			if more >= 0 && (at < 0 || more < at) {
				t.Fatalf("Place(%v, %d, %d, %d): %d; for %v more %d", expr, dim, pars, lets, at, by, more)
			}
		}
	}
}

func TestWhatFollowsForFields(t *testing.T) {
	c := chance(1931)
	asked := 0
	for range 4000 {
		dim, pars := 1+c.below(6), c.below(7)
		f := someField(&c, dim, pars)
		if check.Check(f, dim, pars) != none {
			continue
		}
		asked++
		for more := pars; more <= maxPar; more++ {
			checkField(t, f, dim, more, none)
		}
		checkField(t, f, dim, maxPar+1, whole)
		// But for the number of outs.
		checkField(t, f, dim+1, pars, whole)
		checkField(t, f, dim-1, pars, whole)
		for more := dim + 1; more <= maxDim && tree.Size(f) < maxNodes; more++ {
			f.Outs = append(f.Outs, []node{{Op: 3, I: more - 1}})
			checkField(t, f, more, pars, none)
		}
		if len(f.Lets) < maxLets && tree.Size(f) < maxNodes {
			f.Lets = append(f.Lets, letOf("another", nodes(2)))
			checkField(t, f, len(f.Outs), pars, none)
		}
	}
	if asked < 500 {
		t.Errorf("only %d fields may be", asked)
	}
}

// loan is a field in memory that has something behind each list's length, and what should stand there.
type loan struct {
	lets    []let
	outs    [][]node
	codes   [][]node
	numbers [][]uint32
	names   [][]byte
}

// number has behind it words that would make it another one: a nought, and one that is none.
func (l *loan) number(n []uint32) []uint32 {
	room := append(slices.Clone(n), 0, 77, 0)[:len(n)]
	l.numbers = append(l.numbers, room)
	return room
}

// code has behind it nodes that would go on with it, and one that may not be.
func (l *loan) code(code []node) []node {
	var room []node
	for _, n := range code {
		room = append(room, node{Op: n.Op, I: n.I, N: l.number(n.N)})
	}
	room = append(room, node{Op: 6}, node{Op: 2, N: l.number(words(4))}, node{Op: 12})[:len(code)]
	l.codes = append(l.codes, room)
	return room
}

// name is a string over bytes that the lender can write on.
func (l *loan) name(s string) string {
	b := []byte(s + "_")
	l.names = append(l.names, b)
	return unsafe.String(unsafe.SliceData(b), len(s))
}

func (l *loan) field(f field) field {
	for _, x := range f.Lets {
		l.lets = append(l.lets, letOf(l.name(x.Name), l.code(x.Code)))
	}
	for _, out := range f.Outs {
		l.outs = append(l.outs, l.code(out))
	}
	l.lets = append(l.lets, letOf(l.name("spare"), l.code(nodes(1))), let{})[:len(f.Lets)]
	l.outs = append(l.outs, l.code(nodes(2)), nil)[:len(f.Outs)]
	return field{Lets: l.lets, Outs: l.outs}
}

// all is a list with its spare room.
func all[T any](l []T) []T { return l[:cap(l):cap(l)] }

// seen is all that was lent, spare room too, as a text.
func (l *loan) seen() string {
	var s strings.Builder
	fmt.Fprintln(&s, all(l.lets), all(l.outs), l.names)
	for _, code := range l.codes {
		fmt.Fprintln(&s, all(code))
	}
	for _, n := range l.numbers {
		fmt.Fprintln(&s, all(n))
	}
	return s.String()
}

// spoil writes on all that was lent, spare room too.
func (l *loan) spoil() {
	for _, n := range l.numbers {
		clear(all(n))
	}
	for _, code := range l.codes {
		for i := range all(code) {
			all(code)[i] = node{Op: -9, I: -9}
		}
	}
	for _, name := range l.names {
		clear(name)
	}
	clear(all(l.lets))
	clear(all(l.outs))
}

// asked are fields that may be, and that may not.
func asked() []field {
	l := []field{{}, {Lets: []let{{}}}, {Outs: [][]node{nil}}, plain(0, 1), plain(10, 6), plain(11, 6), {Outs: [][]node{chain(41)}}}
	for _, d := range defects() {
		f := plain(3, 2)
		d.spoil(&f, 2)
		l = append(l, f)
	}
	c := chance(5)
	for range 60 {
		l = append(l, someField(&c, 1+c.below(6), 2))
	}
	return l
}

// told is all that is told of a field and of what it has.
func told(f field) string {
	var s strings.Builder
	for pars := -1; pars <= 7; pars++ {
		fmt.Fprintln(&s, check.Check(f, len(f.Outs), pars), check.Check(f, pars, 2))
	}
	codes := slices.Clone(f.Outs)
	for _, x := range f.Lets {
		fmt.Fprintln(&s, check.Name(x.Name))
		codes = append(codes, x.Code)
	}
	for _, code := range codes {
		fmt.Fprintln(&s, check.Place(code, 2, 2, 2), check.Place(code, 6, 6, 10))
		for _, n := range code {
			fmt.Fprintln(&s, check.Node(n, 2, 2, 2), check.Node(n, 6, 6, 10))
		}
	}
	return s.String()
}

// What was handed in is left, and what lies behind its lengths isn't read.
func TestWhatIsHandedInIsLeft(t *testing.T) {
	for _, f := range asked() {
		var l loan
		lent := l.field(f)
		before := l.seen()
		got := told(lent)
		if l.seen() != before {
			t.Fatalf("of %v is left\n%s; want\n%s", f, l.seen(), before)
		}
		if want := told(f); got != want {
			t.Fatalf("of %v, with more behind it, is told\n%s; want\n%s", f, got, want)
		}
	}
}

// When a call has answered, what it was given may be written on.
func TestWhatIsHandedInIsNotKept(t *testing.T) {
	for _, f := range asked() {
		want := told(f)
		var l loan
		told(l.field(f))
		l.spoil()
		if got := told(f); got != want {
			t.Fatalf("of %v is told\n%s; want\n%s", f, got, want)
		}
	}
}

// The same call tells the same, whatever was asked between.
func TestTheSameAgain(t *testing.T) {
	l := asked()
	var first []string
	for _, f := range l {
		first = append(first, told(f))
	}
	for i := len(l) - 1; i >= 0; i-- {
		if again := told(l[i]); again != first[i] {
			t.Fatalf("of %v is told\n%s, and again\n%s", l[i], first[i], again)
		}
	}
	// One name, one expression and one number, more than once in one field.
	n := node{Op: 1, N: words(7, 8)}
	code := []node{n, n, {Op: 9}}
	for range 50 {
		checkField(t, field{Lets: []let{letOf("a", code), letOf("b", code)}, Outs: [][]node{code, code}}, 2, 0, none)
		checkField(t, field{Lets: []let{letOf("a", code), letOf("a", code)}, Outs: [][]node{code, code}}, 2, 0, named(2))
		checkField(t, field{Lets: []let{letOf("a", code), letOf("b", code)}, Outs: [][]node{code, code[:2]}}, 2, 0, placed(4, 2))
		checkField(t, field{Lets: []let{letOf("a", code)}, Outs: [][]node{code}}, 1, 0, none)
	}
}
