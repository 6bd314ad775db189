package tree_test

import (
	"fmt"
	"math"
	"slices"
	"strings"
	"testing"
	"unsafe"

	"retrospect/tree"
)

type (
	node  = tree.Node
	let   = tree.Let
	field = tree.Field
)

// The operations, as the document numbers them.
var (
	leaves = []int{1, 2, 3, 4, 5}
	ones   = []int{6, 11}
	twos   = []int{7, 8, 9, 10}
)

// noOps are numbers of no operation: neighbours, signs turned round, and those whose lowest bits are an operation's.
func noOps() []int {
	l := []int{0, 12, 13, 15, 16, 100, 128, 255, 256, 1 << 31, 1 << 32, math.MaxInt, math.MaxInt - 1, math.MinInt, math.MinInt + 1, math.MinInt + 11, math.MaxInt32, math.MinInt32}
	for op := 1; op <= 11; op++ {
		l = append(l, -op, op+16, op+128, op+256, op-256, op<<8, op+1<<16, op+1<<32, op-1<<32, op+math.MinInt)
	}
	return l
}

// arity is what the chapter says of Arity.
func arity(op int) int {
	switch {
	case slices.Contains(leaves, op):
		return 0
	case slices.Contains(ones, op):
		return 1
	case slices.Contains(twos, op):
		return 2
	}
	return -1
}

// expr is an expression as a last node with its operands.
type expr struct {
	last  node
	parts []expr
}

func (e expr) code() []node {
	var l []node
	for _, p := range e.parts {
		l = append(l, p.code()...)
	}
	return append(l, e.last)
}

func (e expr) depth() int {
	d := 0
	for _, p := range e.parts {
		d = max(d, p.depth())
	}
	return d + 1
}

func of(op int, parts ...expr) expr { return expr{node{Op: op}, parts} }

func number(n ...uint32) expr { return expr{node{Op: 1, N: n}, nil} }

func at(op, i int, parts ...expr) expr { return expr{node{Op: op, I: i}, parts} }

// nodes are of these operations, and of nothing else.
func nodes(ops ...int) []node {
	var l []node
	for _, op := range ops {
		l = append(l, node{Op: op})
	}
	return l
}

// shapes are all expressions of n nodes, made of one operation of each arity.
func shapes(n int) []expr {
	if n < 1 {
		return nil
	}
	if n == 1 {
		return []expr{of(2)}
	}
	var l []expr
	for _, a := range shapes(n - 1) {
		l = append(l, of(6, a))
	}
	for first := 1; first < n-1; first++ {
		for _, a := range shapes(first) {
			for _, b := range shapes(n - 1 - first) {
				l = append(l, of(7, a, b))
			}
		}
	}
	return l
}

// dressed is e with other operations of the same arities, and with numbers, so that hardly two nodes of one expression are alike.
func dressed(e expr, seed *uint32) expr {
	*seed = *seed*1664525 + 1013904223
	x := int(*seed >> 8)
	ops := [][]int{leaves, ones, twos}[len(e.parts)]
	d := expr{last: node{Op: ops[x%len(ops)], I: x/7%5 - 2}}
	switch x / 35 % 4 {
	case 0:
		d.last.N = []uint32{uint32(x)}
	case 1:
		d.last.N = []uint32{uint32(x), 0, 3, 0}
	case 2:
		d.last.N = []uint32{}
	}
	for _, p := range e.parts {
		d.parts = append(d.parts, dressed(p, seed))
	}
	return d
}

// pool are expressions of all shapes of up to n nodes, each in some dresses.
func pool(n, dresses int) []expr {
	var l []expr
	seed := uint32(n)
	for size := 1; size <= n; size++ {
		for _, e := range shapes(size) {
			l = append(l, e)
			for range dresses {
				l = append(l, dressed(e, &seed))
			}
		}
	}
	return l
}

// chain is an expression of n operations of one operand, one on the other.
func chain(n int) []node {
	l := nodes(3)
	for i := range n {
		l = append(l, node{Op: ones[i%2], I: i % 9})
	}
	return l
}

// toTheLeft and toTheRight are expressions of n operations of two operands, whose one operand is always a single node.
func toTheLeft(n int) []node {
	l := nodes(2)
	for i := range n {
		l = append(l, node{Op: leaves[i%5], I: i}, node{Op: twos[i%4]})
	}
	return l
}

func toTheRight(n int) []node {
	var l []node
	for i := range n + 1 {
		l = append(l, node{Op: leaves[i%5], I: i})
	}
	for i := range n {
		l = append(l, node{Op: twos[i%4]})
	}
	return l
}

// full is the expression of that depth whose operations all have two operands.
func full(depth int) []node {
	if depth == 1 {
		return nodes(4)
	}
	half := full(depth - 1)
	return append(append(slices.Clone(half), half...), node{Op: twos[depth%4]})
}

// told is what the chapter says of Wrong; the expressions that aren't an operand yet are held as lists of nodes.
func told(code []node) int {
	var free [][]node
	for i, n := range code {
		needs := arity(n.Op)
		if needs < 0 || len(free) < needs {
			return i
		}
		made := slices.Concat(free[len(free)-needs:]...)
		free = append(free[:len(free)-needs:len(free)-needs], append(made, n))
	}
	if len(free) != 1 {
		return len(code)
	}
	return -1
}

// exact holds two nodes against each other as they stand, but that nil is as an empty list.
func exact(a, b node) bool { return a.Op == b.Op && a.I == b.I && slices.Equal(a.N, b.N) }

func exactCode(a, b []node) bool { return slices.EqualFunc(a, b, exact) }

func exactCodes(a, b [][]node) bool { return slices.EqualFunc(a, b, exactCode) }

// checkWrong asks Right, too, and of what is no expression what Depth and Parts answer.
func checkWrong(t *testing.T, code []node, want int) {
	t.Helper()
	if got := tree.Wrong(code); got != want {
		t.Fatalf("Wrong(%v): %d; want %d", code, got, want)
	}
	if got := tree.Right(code); got != (want == -1) {
		t.Fatalf("Right(%v): %v; want %v", code, got, want == -1)
	}
	if want == -1 {
		return
	}
	if got := tree.Depth(code); got != 0 {
		t.Fatalf("Depth(%v): %d; want 0", code, got)
	}
	if got, ok := tree.Parts(code); len(got) != 0 || ok {
		t.Fatalf("Parts(%v): %v, %v; want none, false", code, got, ok)
	}
}

func checkDepth(t *testing.T, code []node, want int) {
	t.Helper()
	if got := tree.Depth(code); got != want {
		t.Fatalf("Depth(%v): %d; want %d", code, got, want)
	}
}

func checkParts(t *testing.T, code []node, want ...[]node) {
	t.Helper()
	if got, ok := tree.Parts(code); !ok || !exactCodes(got, want) {
		t.Fatalf("Parts(%v): %v, %v; want %v, true", code, got, ok, want)
	}
}

// checkMade holds all that is told of an expression against how it was made.
func checkMade(t *testing.T, code []node, e expr) {
	t.Helper()
	checkWrong(t, code, -1)
	checkDepth(t, code, e.depth())
	var parts [][]node
	for _, p := range e.parts {
		parts = append(parts, p.code())
	}
	checkParts(t, code, parts...)
}

// checkSame asks in both directions.
func checkSame(t *testing.T, a, b []node, want bool) {
	t.Helper()
	if got := tree.Same(a, b); got != want {
		t.Fatalf("Same(%v, %v): %v; want %v", a, b, got, want)
	}
	if got := tree.Same(b, a); got != want {
		t.Fatalf("Same(%v, %v): %v; want %v", b, a, got, want)
	}
}

func checkSameField(t *testing.T, a, b field, want bool) {
	t.Helper()
	if got := tree.SameField(a, b); got != want {
		t.Fatalf("SameField(%v, %v): %v; want %v", a, b, got, want)
	}
	if got := tree.SameField(b, a); got != want {
		t.Fatalf("SameField(%v, %v): %v; want %v", b, a, got, want)
	}
}

func checkField(t *testing.T, f field, size int, codes ...[]node) {
	t.Helper()
	if got := tree.Size(f); got != size {
		t.Fatalf("Size(%v): %d; want %d", f, got, size)
	}
	if got := tree.Codes(f); !exactCodes(got, codes) {
		t.Fatalf("Codes(%v): %v; want %v", f, got, codes)
	}
}

func TestTopNames(t *testing.T) {
	got := []int{tree.OpConst, tree.OpTime, tree.OpState, tree.OpPar, tree.OpLet, tree.OpNeg, tree.OpAdd, tree.OpSub, tree.OpMul, tree.OpQuo, tree.OpPow}
	if want := []int{1, 2, 3, 4, 5, 6, 7, 8, 9, 10, 11}; !slices.Equal(got, want) {
		t.Errorf("operations: %d; want %d", got, want)
	}
}

func TestArity(t *testing.T) {
	for _, c := range []struct{ op, want int }{
		{1, 0}, {2, 0}, {3, 0}, {4, 0}, {5, 0}, {6, 1}, {7, 2}, {8, 2}, {9, 2}, {10, 2}, {11, 1},
		{0, -1}, {12, -1}, {13, -1}, {-1, -1}, {-2, -1}, {-6, -1}, {-7, -1}, {-11, -1}, {math.MaxInt, -1}, {math.MinInt, -1},
	} {
		if got := tree.Arity(c.op); got != c.want {
			t.Errorf("Arity(%d): %d; want %d", c.op, got, c.want)
		}
	}
	for op := -70000; op <= 70000; op++ {
		if got := tree.Arity(op); got != arity(op) {
			t.Fatalf("Arity(%d): %d; want %d", op, got, arity(op))
		}
	}
	for _, op := range noOps() {
		if got := tree.Arity(op); got != -1 {
			t.Fatalf("Arity(%d): %d; want -1", op, got)
		}
	}
}

func TestWrongTable(t *testing.T) {
	for _, c := range []struct {
		ops  []int
		want int
	}{
		{nil, 0},
		{[]int{}, 0},
		{[]int{1}, -1}, {[]int{2}, -1}, {[]int{3}, -1}, {[]int{4}, -1}, {[]int{5}, -1},
		{[]int{6}, 0}, {[]int{7}, 0}, {[]int{8}, 0}, {[]int{9}, 0}, {[]int{10}, 0}, {[]int{11}, 0},
		{[]int{0}, 0}, {[]int{12}, 0}, {[]int{-1}, 0},
		// One and two nodes ahead of each operation.
		{[]int{1, 6}, -1}, {[]int{1, 11}, -1}, {[]int{1, 7}, 1}, {[]int{1, 8}, 1}, {[]int{1, 9}, 1}, {[]int{1, 10}, 1},
		{[]int{1, 2, 7}, -1}, {[]int{1, 2, 8}, -1}, {[]int{1, 2, 9}, -1}, {[]int{1, 2, 10}, -1}, {[]int{1, 2, 6}, 3}, {[]int{1, 2, 11}, 3},
		// No operation at the beginning, in the middle, at the end.
		{[]int{0, 1, 2, 7}, 0}, {[]int{1, 0, 2, 7}, 1}, {[]int{1, 2, 0, 7}, 2}, {[]int{1, 2, 7, 0}, 3}, {[]int{1, 12}, 1}, {[]int{1, 2, 7, 6, 12}, 4},
		// What is wrong first is told, whatever stands behind.
		{[]int{6, 0}, 0}, {[]int{7, 12}, 0}, {[]int{1, 7, 0}, 1}, {[]int{0, 6}, 0}, {[]int{12, 7}, 0}, {[]int{1, 0, 7}, 1}, {[]int{1, 12, 9, 0}, 1},
		{[]int{1, 10, 7}, 1}, {[]int{6, 6, 6}, 0}, {[]int{0, 0}, 0}, {[]int{1, 2, 3, 0}, 3}, {[]int{1, 2, 7, 7}, 3}, {[]int{1, 2, 7, 7, 0}, 3},
		// An operand isn't there twice.
		{[]int{1, 2, 7, 8}, 3}, {[]int{1, 2, 3, 7, 8, 9}, 5}, {[]int{1, 6, 7}, 2}, {[]int{1, 6, 6, 11, 7}, 4}, {[]int{1, 2, 7, 6, 7}, 4},
		// More than one expression, side by side.
		{[]int{1, 1}, 2}, {[]int{1, 2, 3}, 3}, {[]int{1, 2, 3, 7}, 4}, {[]int{1, 2, 7, 3}, 4}, {[]int{1, 6, 2, 6}, 4}, {[]int{1, 2, 7, 3, 4, 8}, 6}, {[]int{5, 5, 5, 5, 5}, 5}, {[]int{1, 2, 3, 6, 7}, 5},
		// What is one.
		{[]int{1, 2, 3, 7, 8}, -1}, {[]int{1, 2, 7, 3, 8}, -1}, {[]int{1, 6, 2, 11, 9}, -1}, {[]int{1, 2, 7, 3, 4, 8, 9}, -1}, {[]int{5, 6, 6, 6, 11, 11}, -1}, {[]int{1, 6, 2, 7}, -1}, {[]int{1, 2, 6, 7}, -1}, {[]int{1, 2, 7, 6}, -1},
	} {
		checkWrong(t, nodes(c.ops...), c.want)
	}
}

// All lists of up to seven nodes, made of one operation of each arity and of none.
func TestWrongOfAllShortLists(t *testing.T) {
	right := 0
	var grow func(code []node, left int)
	grow = func(code []node, left int) {
		want := told(code)
		checkWrong(t, code, want)
		if want == -1 {
			right++
		}
		if left == 0 {
			return
		}
		for _, op := range []int{2, 6, 7, 0} {
			grow(append(slices.Clone(code), node{Op: op}), left-1)
		}
	}
	grow(nil, 7)
	if want := 1 + 1 + 2 + 4 + 9 + 21 + 51; right != want {
		t.Errorf("%d lists are expressions; want %d", right, want)
	}
}

// All lists of up to three nodes of all operations and some of none.
func TestWrongOfEachOperationBesideEach(t *testing.T) {
	ops := append([]int{0, 12, -1, -6, math.MaxInt, math.MinInt}, slices.Concat(leaves, ones, twos)...)
	for _, a := range ops {
		checkWrong(t, nodes(a), told(nodes(a)))
		for _, b := range ops {
			checkWrong(t, nodes(a, b), told(nodes(a, b)))
			for _, c := range ops {
				checkWrong(t, nodes(a, b, c), told(nodes(a, b, c)))
			}
		}
	}
}

// Right holds of what the chapter's rule builds, and of nothing else.
func TestRightIsWhatTheRuleBuilds(t *testing.T) {
	built := map[string]bool{}
	for n := 1; n <= 9; n++ {
		for _, e := range shapes(n) {
			built[fmt.Sprint(e.code())] = true
		}
	}
	var grow func(code []node, left int)
	grow = func(code []node, left int) {
		if got := tree.Right(code); got != built[fmt.Sprint(code)] {
			t.Fatalf("Right(%v): %v; want %v", code, got, !got)
		}
		if left == 0 {
			return
		}
		for _, op := range []int{2, 6, 7} {
			grow(append(slices.Clone(code), node{Op: op}), left-1)
		}
	}
	grow(nil, 9)
}

func TestExpressionsOfAllShapes(t *testing.T) {
	for _, e := range pool(9, 4) {
		checkMade(t, e.code(), e)
	}
}

// Numbers have no part in what is an expression: neither those that can't be meant nor those that aren't right.
func TestNumbersMakeNothingWrong(t *testing.T) {
	numbers := [][]uint32{nil, {}, {0}, {5}, {5, 0, 0}, slices.Repeat([]uint32{0}, 100), slices.Repeat([]uint32{7}, 1000)}
	for _, i := range []int{0, 1, -1, 5, 6, 8, 9, -9, 99, math.MaxInt, math.MinInt} {
		for _, n := range numbers {
			a, b, c := node{Op: 5, I: i, N: n}, node{Op: 1, I: -i, N: n}, node{Op: 11, I: i, N: n}
			checkWrong(t, []node{a}, -1)
			checkDepth(t, []node{a, c}, 2)
			checkParts(t, []node{a, c}, []node{a})
			checkParts(t, []node{a, b, c, {Op: 7, I: i, N: n}}, []node{a}, []node{b, c})
			checkWrong(t, []node{{Op: 12, I: i, N: n}}, 0)
			checkWrong(t, []node{a, {Op: 7, I: i, N: n}}, 1)
			checkWrong(t, []node{a, b}, 2)
		}
	}
}

// In a long expression a node is put in, taken out, or made into another one, at each place.
func TestWrongAtEachPlaceOfLongerOnes(t *testing.T) {
	for _, code := range [][]node{chain(12), toTheLeft(8), toTheRight(8), full(4), nodes(1, 2, 7, 6, 3, 11, 8, 4, 5, 9, 10)} {
		checkWrong(t, code, -1)
		for i := range code {
			gone := slices.Delete(slices.Clone(code), i, i+1)
			checkWrong(t, gone, told(gone))
			checkWrong(t, code[:i], told(code[:i]))
			for _, op := range []int{0, 1, 6, 9, 11, 12, -3} {
				more := slices.Insert(slices.Clone(code), i, node{Op: op})
				checkWrong(t, more, told(more))
				other := slices.Clone(code)
				other[i].Op = op
				checkEither(t, other)
			}
		}
	}
}

// checkEither asks Wrong of code that may be an expression or none.
func checkEither(t *testing.T, code []node) {
	t.Helper()
	if got := tree.Wrong(code); got != told(code) || tree.Right(code) != (got == -1) {
		t.Fatalf("Wrong(%v): %d; want %d", code, got, told(code))
	}
}

// noise are n nodes without a pattern; it's the same for the same seed.
func noise(n int, seed uint32, ops []int) []node {
	x := uint32(2463534242) + seed*2654435761
	l := make([]node, n)
	for i := range l {
		x ^= x << 13
		x ^= x >> 17
		x ^= x << 5
		l[i] = node{Op: ops[int(x>>8)%len(ops)], I: int(x % 7), N: []uint32{x}}
	}
	return l
}

func TestWrongOfMixedNodes(t *testing.T) {
	all := slices.Concat(leaves, ones, twos)
	for seed := range uint32(300) {
		for _, n := range []int{1, 5, 20, 300} {
			checkEither(t, noise(n, seed, all))
			checkEither(t, noise(n, seed, append([]int{0, 12}, all...)))
			checkEither(t, noise(n, seed, noOps()))
			// Where few operations have operands, they hardly ever want for them.
			checkEither(t, append(slices.Repeat(nodes(1), n), noise(n, seed, all)...))
		}
	}
}

func TestLongExpressions(t *testing.T) {
	for _, n := range []int{39, 40, 41, 299, 300, 301, 5000, 100000} {
		for _, c := range []struct {
			code  []node
			depth int
			parts [][]node
		}{
			{chain(n), n + 1, [][]node{chain(n - 1)}},
			{toTheLeft(n), n + 1, [][]node{toTheLeft(n - 1), {{Op: leaves[(n-1)%5], I: n - 1}}}},
			{toTheRight(n), n + 1, [][]node{{{Op: 1}}, toTheRight(n)[1 : 2*n]}},
		} {
			if tree.Wrong(c.code) != -1 || !tree.Right(c.code) || tree.Depth(c.code) != c.depth {
				t.Fatalf("an expression of %d nodes, %d deep: Wrong %d, Depth %d", len(c.code), c.depth, tree.Wrong(c.code), tree.Depth(c.code))
			}
			if parts, ok := tree.Parts(c.code); !ok || !exactCodes(parts, c.parts) {
				t.Fatalf("an expression of %d nodes, %d deep, has other Parts", len(c.code), c.depth)
			}
			// One more at the end, or one less at the beginning, and it's none.
			if got := tree.Wrong(append(slices.Clone(c.code), node{Op: 2})); got != len(c.code)+1 {
				t.Fatalf("an expression of %d nodes and one more: %d", len(c.code), got)
			}
			if got := tree.Wrong(append(slices.Clone(c.code), node{Op: 7})); got != len(c.code) {
				t.Fatalf("an expression of %d nodes and an operation of two: %d", len(c.code), got)
			}
			if tree.Right(c.code[1:]) || tree.Depth(c.code[1:]) != 0 {
				t.Fatalf("an expression of %d nodes without the first one is one", len(c.code))
			}
		}
		if got := tree.Wrong(slices.Repeat(nodes(3), n)); got != n {
			t.Fatalf("%d nodes side by side: %d", n, got)
		}
		if got := tree.Wrong(slices.Repeat(nodes(6), n)); got != 0 {
			t.Fatalf("%d operations without an operand: %d", n, got)
		}
	}
	for depth := 1; depth <= 14; depth++ {
		code := full(depth)
		checkWrong(t, code, -1)
		checkDepth(t, code, depth)
		if depth > 1 {
			checkParts(t, code, full(depth-1), full(depth-1))
		}
	}
}

func TestDepthTable(t *testing.T) {
	for _, c := range []struct {
		ops  []int
		want int
	}{
		{nil, 0}, {[]int{0}, 0}, {[]int{6}, 0}, {[]int{7}, 0}, {[]int{1, 2}, 0}, {[]int{1, 7}, 0}, {[]int{1, 2, 3, 7}, 0}, {[]int{12, 6}, 0}, {[]int{1, 6, 12}, 0}, {[]int{1, 6, 6, 2}, 0},
		{[]int{1}, 1}, {[]int{2}, 1}, {[]int{3}, 1}, {[]int{4}, 1}, {[]int{5}, 1},
		{[]int{1, 6}, 2}, {[]int{1, 11}, 2}, {[]int{1, 6, 6}, 3}, {[]int{1, 6, 11, 6, 11}, 5},
		{[]int{1, 2, 7}, 2}, {[]int{1, 2, 8}, 2}, {[]int{1, 2, 9}, 2}, {[]int{1, 2, 10}, 2},
		// The first operand is the deeper one.
		{[]int{1, 6, 2, 7}, 3}, {[]int{1, 6, 6, 6, 2, 7}, 5}, {[]int{1, 2, 7, 3, 8}, 3}, {[]int{1, 2, 7, 3, 8, 4, 9}, 4}, {[]int{1, 6, 6, 2, 6, 7}, 4},
		// The second one is.
		{[]int{1, 2, 6, 7}, 3}, {[]int{1, 2, 6, 6, 6, 7}, 5}, {[]int{1, 2, 3, 7, 8}, 3}, {[]int{1, 2, 3, 4, 7, 8, 9}, 4}, {[]int{1, 6, 2, 6, 6, 7}, 4},
		// Neither is.
		{[]int{1, 6, 2, 11, 10}, 3}, {[]int{1, 2, 7, 3, 4, 8, 9}, 3}, {[]int{1, 2, 7, 3, 4, 8, 9, 6}, 4},
	} {
		checkDepth(t, nodes(c.ops...), c.want)
	}
}

func TestPartsTable(t *testing.T) {
	for _, op := range leaves {
		checkParts(t, nodes(op))
	}
	for _, op := range ones {
		checkParts(t, nodes(3, op), nodes(3))
		checkParts(t, nodes(1, 2, 7, op), nodes(1, 2, 7))
		checkParts(t, nodes(1, op, op), nodes(1, op))
	}
	for _, op := range twos {
		checkParts(t, nodes(3, 4, op), nodes(3), nodes(4))
		checkParts(t, nodes(3, 6, 4, op), nodes(3, 6), nodes(4))
		checkParts(t, nodes(3, 4, 6, op), nodes(3), nodes(4, 6))
		checkParts(t, nodes(3, 4, op, 5, op), nodes(3, 4, op), nodes(5))
		checkParts(t, nodes(3, 4, 5, op, op), nodes(3), nodes(4, 5, op))
		checkParts(t, nodes(1, 2, 7, 11, 3, 4, 8, 6, op), nodes(1, 2, 7, 11), nodes(3, 4, 8, 6))
		checkParts(t, nodes(3, 3, op), nodes(3), nodes(3))
	}
	// What isn't an operation, or stands beside, refuses it, however good the rest is.
	for _, code := range [][]node{nil, {}, nodes(0), nodes(6), nodes(7), nodes(1, 7), nodes(1, 2), nodes(1, 2, 3, 7), nodes(1, 2, 7, 0), nodes(0, 1, 2, 7), nodes(1, 2, 7, 3), nodes(1, 1, 6), nodes(12, 6)} {
		if got, ok := tree.Parts(code); len(got) != 0 || ok {
			t.Errorf("Parts(%v): %v, %v; want none, false", code, got, ok)
		}
	}
}

func TestSameTable(t *testing.T) {
	five := []node{{Op: 1, N: []uint32{5}}}
	for _, c := range []struct {
		a, b []node
		want bool
	}{
		{nil, nil, true},
		{nil, []node{}, true},
		{[]node{}, []node{}, true},
		{nil, nodes(1), false},
		{[]node{}, []node{{}}, false},
		{[]node{{}}, []node{{}}, true},
		{nodes(2), nodes(2), true},
		{nodes(2), nodes(3), false},
		{nodes(2, 2), nodes(2), false},
		{nodes(1, 2, 7), nodes(1, 2, 7), true},
		{nodes(1, 2, 7), nodes(2, 1, 7), false},
		{nodes(1, 2, 7), nodes(1, 2), false},
		{nodes(1, 2, 7), nodes(2, 7), false},
		{nodes(1, 2, 7), nodes(1, 2, 8), false},
		{five, five, true},
		{five, []node{{Op: 1, N: []uint32{5, 0}}}, true},
		{five, []node{{Op: 1, N: []uint32{5, 0, 0, 0, 0, 0, 0, 0, 0}}}, true},
		{five, []node{{Op: 1, N: []uint32{0, 5}}}, false},
		{five, []node{{Op: 1, N: []uint32{5, 1}}}, false},
		{five, []node{{Op: 1, N: []uint32{4}}}, false},
		{five, []node{{Op: 1, N: []uint32{6}}}, false},
		{five, nodes(1), false},
		{nodes(1), []node{{Op: 1, N: []uint32{}}}, true},
		{nodes(1), []node{{Op: 1, N: []uint32{0}}}, true},
		{nodes(1), []node{{Op: 1, N: []uint32{0, 0, 0}}}, true},
		{nodes(1), []node{{Op: 1, N: []uint32{0, 0, 1}}}, false},
		{[]node{{Op: 1, N: []uint32{1}}}, []node{{Op: 1, I: 1}}, false},
		{[]node{{Op: 3, I: 1}}, []node{{Op: 3, I: 1}}, true},
		{[]node{{Op: 3, I: 1}}, []node{{Op: 3, I: 2}}, false},
		{[]node{{Op: 3, I: 1}}, []node{{Op: 3, I: -1}}, false},
		{[]node{{Op: 3, I: 1}}, []node{{Op: 4, I: 1}}, false},
		{[]node{{Op: 3, I: 2}}, []node{{Op: 2, I: 3}}, false},
		{[]node{{Op: 3, I: 1}}, []node{{Op: 3, I: 1 + 1<<32}}, false},
		{[]node{{Op: 3, I: math.MinInt}}, []node{{Op: 3, I: math.MaxInt}}, false},
		// What an operation has no use for is held against each other, too.
		{[]node{{Op: 2, N: []uint32{1}}}, nodes(2), false},
		{[]node{{Op: 2, N: []uint32{1, 0}}}, []node{{Op: 2, N: []uint32{1}}}, true},
		{[]node{{Op: 2, I: 1}}, nodes(2), false},
		{[]node{{Op: 1, I: 1}}, nodes(1), false},
		{[]node{{Op: 7, I: 1}}, nodes(7), false},
		{[]node{{Op: 7, N: []uint32{1}}}, nodes(7), false},
		{[]node{{Op: 11, I: 2, N: []uint32{1}}}, []node{{Op: 11, I: 2}}, false},
		// Of what is no expression, too.
		{nodes(0), nodes(0), true},
		{nodes(0), nodes(12), false},
		{nodes(-1), nodes(1), false},
		{nodes(7), nodes(7), true},
		{nodes(7, 6, 0), nodes(7, 6, 0), true},
		{nodes(1), nodes(1 + 1<<32), false},
		{nodes(math.MinInt), nodes(math.MinInt), true},
		{nodes(math.MinInt), nodes(math.MaxInt), false},
		{nodes(1, 1), nodes(1, 1), true},
		{nodes(1, 1), nodes(1, 1, 1), false},
	} {
		checkSame(t, c.a, c.b, c.want)
	}
}

// forms are lists of words; those of one row mean the same, those of two rows don't.
func forms() [][][]uint32 {
	return [][][]uint32{
		{nil, {}, {0}, {0, 0}, make([]uint32, 50)},
		{{1}, {1, 0}, {1, 0, 0, 0}},
		{{math.MaxUint32}, {math.MaxUint32, 0}},
		{{0, 1}, {0, 1, 0}},
		{{1, 1}, {1, 1, 0, 0}},
		{{0, 0, 1}, {0, 0, 1, 0}},
		{{1 << 31}, {1 << 31, 0}},
		{slices.Repeat([]uint32{9}, 40), append(slices.Repeat([]uint32{9}, 40), 0)},
		{append([]uint32{8}, slices.Repeat([]uint32{9}, 39)...)},
		{append(slices.Repeat([]uint32{9}, 39), 8)},
		{append(slices.Repeat([]uint32{9}, 40), 1)},
	}
}

func TestSameOfAllPairsOfNumbers(t *testing.T) {
	for i, a := range forms() {
		for j, b := range forms() {
			for _, n := range a {
				for _, m := range b {
					for _, op := range []int{0, 1, 2, 5, 7, 11, 12, -1} {
						for _, around := range []int{0, 1, 3} {
							ahead := nodes(slices.Repeat([]int{4}, around)...)
							a, b := []node{{Op: op, N: n}}, []node{{Op: op, N: m}}
							checkSame(t, slices.Concat(ahead, a), slices.Concat(ahead, b), i == j)
							checkSame(t, slices.Concat(a, ahead), slices.Concat(b, ahead), i == j)
						}
					}
				}
			}
		}
	}
}

// In lists of up to hundreds of nodes just one differs, in just one thing, at each place.
func TestSameOfOneNodeThatDiffers(t *testing.T) {
	for _, n := range []int{1, 2, 3, 10, 64, 300} {
		code := noise(n, uint32(n), slices.Concat(leaves, ones, twos))
		for i := range code {
			for _, n := range []node{
				{Op: code[i].Op + 1, I: code[i].I, N: code[i].N},
				{Op: -code[i].Op, I: code[i].I, N: code[i].N},
				{Op: code[i].Op, I: code[i].I + 1, N: code[i].N},
				{Op: code[i].Op, I: code[i].I - 1, N: code[i].N},
				{Op: code[i].Op, I: code[i].I, N: []uint32{code[i].N[0] + 1}},
				{Op: code[i].Op, I: code[i].I, N: []uint32{code[i].N[0], 1}},
				{Op: code[i].Op, I: code[i].I, N: []uint32{0, code[i].N[0]}},
				{Op: code[i].I + 20, I: code[i].Op, N: code[i].N},
			} {
				other := slices.Clone(code)
				other[i] = n
				checkSame(t, code, other, false)
			}
			other := slices.Clone(code)
			other[i].N = append(slices.Clone(other[i].N), 0, 0)
			checkSame(t, code, other, true)
			checkSame(t, code, code[:i], false)
			checkSame(t, code, code[i+1:], false)
			checkSame(t, code, slices.Delete(slices.Clone(code), i, i+1), false)
			checkSame(t, code, slices.Insert(slices.Clone(code), i, code[i]), false)
		}
		checkSame(t, code, append(slices.Clone(code), node{}), false)
		checkSame(t, code, code, true)
		checkSame(t, code[:n-1], code[1:], n == 1)
	}
}

// bare is n without the noughts at its high end.
func bare(n []uint32) []uint32 {
	for len(n) > 0 && n[len(n)-1] == 0 {
		n = n[:len(n)-1]
	}
	return n
}

func TestSameOfAllPairs(t *testing.T) {
	all := pool(5, 6)
	for i, a := range all {
		for _, b := range all[i:] {
			want := slices.EqualFunc(a.code(), b.code(), func(m, n node) bool {
				return m.Op == n.Op && m.I == n.I && slices.Equal(bare(m.N), bare(n.N))
			})
			checkSame(t, a.code(), b.code(), want)
		}
	}
}

func TestSizeAndCodesTable(t *testing.T) {
	a, b, c := nodes(1), nodes(2, 6), nodes(3, 4, 7)
	for _, f := range []struct {
		field field
		size  int
		codes [][]node
	}{
		{field{}, 0, nil},
		{field{Lets: []let{}, Outs: [][]node{}}, 0, nil},
		{field{Outs: [][]node{a}}, 1, [][]node{a}},
		{field{Lets: []let{{"x", b}}}, 2, [][]node{b}},
		{field{Lets: []let{{"x", c}}, Outs: [][]node{a}}, 4, [][]node{c, a}},
		{field{Lets: []let{{"x", a}}, Outs: [][]node{c}}, 4, [][]node{a, c}},
		{field{Lets: []let{{"x", a}, {"x", b}}, Outs: [][]node{c, c, a}}, 10, [][]node{a, b, c, c, a}},
		{field{Lets: []let{{"", nil}}}, 0, [][]node{nil}},
		{field{Outs: [][]node{nil, {}}}, 0, [][]node{nil, nil}},
		{field{Lets: []let{{"x", nil}, {"y", a}, {"z", []node{}}}, Outs: [][]node{nil, b, {}}}, 3, [][]node{nil, a, nil, nil, b, nil}},
		{field{Lets: []let{{"x", a}, {"y", nil}}, Outs: [][]node{nil, c}}, 4, [][]node{a, nil, nil, c}},
		// Of what is no expression, too.
		{field{Lets: []let{{"x", nodes(7, 0, -1)}}, Outs: [][]node{nodes(6), nodes(12, 12)}}, 6, [][]node{nodes(7, 0, -1), nodes(6), nodes(12, 12)}},
		{field{Outs: [][]node{{{Op: 1, I: -3, N: []uint32{5, 0, 0}}}}}, 1, [][]node{{{Op: 1, I: -3, N: []uint32{5, 0, 0}}}}},
	} {
		checkField(t, f.field, f.size, f.codes...)
	}
}

// many is a field of as many lets and outs.
func many(lets, outs int) field {
	var f field
	all := slices.Concat(leaves, ones, twos)
	for i := range lets {
		f.Lets = append(f.Lets, let{fmt.Sprint("let", i), noise(i%7, uint32(i), all)})
	}
	for i := range outs {
		f.Outs = append(f.Outs, noise(i%5+1, uint32(i+1000), all))
	}
	return f
}

func TestSizeAndCodesOfMany(t *testing.T) {
	for _, lets := range []int{0, 1, 10, 11, 300, 5000} {
		for _, outs := range []int{0, 1, 6, 7, 300, 5000} {
			f := many(lets, outs)
			size := 0
			var codes [][]node
			for _, l := range f.Lets {
				size += len(l.Code)
				codes = append(codes, l.Code)
			}
			for _, out := range f.Outs {
				size += len(out)
				codes = append(codes, out)
			}
			checkField(t, f, size, codes...)
		}
	}
	long := field{Lets: []let{{"x", chain(100000)}}, Outs: [][]node{toTheLeft(50000)}}
	if got := tree.Size(long); got != 200002 {
		t.Errorf("Size of a long field: %d; want 200002", got)
	}
	if got := tree.Codes(long); !exactCodes(got, [][]node{long.Lets[0].Code, long.Outs[0]}) {
		t.Error("Codes of a long field are others")
	}
}

// deep is a copy that shares nothing with f.
func deep(f field) field {
	var g field
	for _, l := range f.Lets {
		g.Lets = append(g.Lets, let{strings.Clone(l.Name), deepCode(l.Code)})
	}
	g.Outs = deepCodes(f.Outs)
	return g
}

func deepCodes(codes [][]node) [][]node {
	var l [][]node
	for _, code := range codes {
		l = append(l, deepCode(code))
	}
	return l
}

func deepCode(code []node) []node {
	var l []node
	for _, n := range code {
		l = append(l, node{Op: n.Op, I: n.I, N: append([]uint32(nil), n.N...)})
	}
	return l
}

func TestSameFieldTable(t *testing.T) {
	a, b := nodes(1), nodes(2, 6)
	x, y := let{"x", a}, let{"y", b}
	for i, c := range []struct {
		f, g field
		want bool
	}{
		{field{}, field{}, true},
		{field{}, field{Lets: []let{}, Outs: [][]node{}}, true},
		{field{}, field{Lets: []let{{}}}, false},
		{field{}, field{Outs: [][]node{nil}}, false},
		{field{Lets: []let{{}}}, field{Outs: [][]node{nil}}, false},
		{field{Lets: []let{{"", nil}}}, field{Lets: []let{{"", []node{}}}}, true},
		{field{Outs: [][]node{nil, {}}}, field{Outs: [][]node{{}, nil}}, true},
		{field{Outs: [][]node{nil}}, field{Outs: [][]node{nil, nil}}, false},
		{field{Lets: []let{{}}}, field{Lets: []let{{}, {}}}, false},
		{field{Lets: []let{x}, Outs: [][]node{b}}, field{Lets: []let{x}, Outs: [][]node{b}}, true},
		// Just one let's name, or code.
		{field{Lets: []let{x}}, field{Lets: []let{{"X", a}}}, false},
		{field{Lets: []let{x}}, field{Lets: []let{{"", a}}}, false},
		{field{Lets: []let{x}}, field{Lets: []let{{"x ", a}}}, false},
		{field{Lets: []let{x}}, field{Lets: []let{{"xx", a}}}, false},
		{field{Lets: []let{x}}, field{Lets: []let{{"x\x00", a}}}, false},
		{field{Lets: []let{{"\xff", a}}}, field{Lets: []let{{"\xfe", a}}}, false},
		{field{Lets: []let{{"\xff", a}}}, field{Lets: []let{{"\ufffd", a}}}, false},
		{field{Lets: []let{{"é", a}}}, field{Lets: []let{{"é", a}}}, true},
		{field{Lets: []let{{"é", a}}}, field{Lets: []let{{"e\u0301", a}}}, false},
		{field{Lets: []let{{"\x00\xff \n", a}}}, field{Lets: []let{{"\x00\xff \n", a}}}, true},
		{field{Lets: []let{x}}, field{Lets: []let{{"x", b}}}, false},
		{field{Lets: []let{x, y}}, field{Lets: []let{x, {"z", b}}}, false},
		{field{Lets: []let{x, y}}, field{Lets: []let{x, {"y", a}}}, false},
		{field{Lets: []let{x, y}}, field{Lets: []let{{"y", a}, {"x", b}}}, false},
		// The order counts.
		{field{Lets: []let{x, y}}, field{Lets: []let{y, x}}, false},
		{field{Outs: [][]node{a, b}}, field{Outs: [][]node{b, a}}, false},
		// An out.
		{field{Outs: [][]node{a}}, field{Outs: [][]node{b}}, false},
		{field{Outs: [][]node{a}}, field{Outs: [][]node{nil}}, false},
		{field{Outs: [][]node{a, b}}, field{Outs: [][]node{a, nodes(2, 11)}}, false},
		{field{Lets: []let{x}, Outs: [][]node{a}}, field{Lets: []let{x}, Outs: [][]node{b}}, false},
		// How many there are.
		{field{Lets: []let{x}}, field{Lets: []let{x, x}}, false},
		{field{Lets: []let{x, y}}, field{Lets: []let{x}}, false},
		{field{Outs: [][]node{a}}, field{Outs: [][]node{a, a}}, false},
		{field{Outs: [][]node{a, b}}, field{Outs: [][]node{a}}, false},
		{field{Lets: []let{x}}, field{}, false},
		{field{Outs: [][]node{a}}, field{}, false},
		// One out more in place of one let more: Codes tells the same of both.
		{field{Lets: []let{{"", a}}, Outs: [][]node{b}}, field{Outs: [][]node{a, b}}, false},
		{field{Lets: []let{{"", a}}}, field{Outs: [][]node{a}}, false},
		{field{Lets: []let{x, y}, Outs: [][]node{a}}, field{Lets: []let{x}, Outs: [][]node{b, a}}, false},
		// Where one expression ends and the next one begins counts, too.
		{field{Outs: [][]node{nodes(1, 2), nodes(3)}}, field{Outs: [][]node{nodes(1), nodes(2, 3)}}, false},
		// Numbers are the same by their values.
		{field{Outs: [][]node{{{Op: 1, N: []uint32{5}}}}}, field{Outs: [][]node{{{Op: 1, N: []uint32{5, 0}}}}}, true},
		{field{Lets: []let{{"x", []node{{Op: 1, N: []uint32{0}}}}}}, field{Lets: []let{{"x", []node{{Op: 1}}}}}, true},
		{field{Lets: []let{{"x", []node{{Op: 1, N: []uint32{1}}}}}}, field{Lets: []let{{"x", []node{{Op: 1}}}}}, false},
		{field{Outs: [][]node{nodes(0, 12, -5)}}, field{Outs: [][]node{nodes(0, 12, -5)}}, true},
		{field{Outs: [][]node{nodes(0, 12, -5)}}, field{Outs: [][]node{nodes(0, 12, -4)}}, false},
	} {
		if got := tree.SameField(c.f, c.g); got != c.want {
			t.Errorf("%d: SameField(%v, %v): %v; want %v", i, c.f, c.g, got, c.want)
		}
		checkSameField(t, c.f, c.g, c.want)
		checkSameField(t, c.f, deep(c.f), true)
		checkSameField(t, c.g, c.g, true)
	}
}

// Of many lets and outs just one differs, at each place.
func TestSameFieldOfOneThatDiffers(t *testing.T) {
	for _, n := range []int{1, 2, 7, 10, 100, 300} {
		f := many(n, n)
		checkSameField(t, f, f, true)
		checkSameField(t, f, deep(f), true)
		for i := range n {
			g := deep(f)
			g.Lets[i].Name += "_"
			checkSameField(t, f, g, false)
			g = deep(f)
			g.Lets[i].Code = append(g.Lets[i].Code, node{})
			checkSameField(t, f, g, false)
			g = deep(f)
			g.Outs[i][len(g.Outs[i])-1].I++
			checkSameField(t, f, g, false)
			g = deep(f)
			g.Outs[i] = g.Outs[i][1:]
			checkSameField(t, f, g, false)
			g = deep(f)
			g.Lets = slices.Delete(g.Lets, i, i+1)
			checkSameField(t, f, g, false)
			g = deep(f)
			g.Outs = slices.Delete(g.Outs, i, i+1)
			checkSameField(t, f, g, false)
			g = deep(f)
			g.Outs[i][0].N = append(g.Outs[i][0].N, 0)
			checkSameField(t, f, g, true)
		}
		g := deep(f)
		slices.Reverse(g.Lets)
		checkSameField(t, f, g, n == 1)
		g = deep(f)
		g.Lets, g.Outs = g.Lets[:n-1], append([][]node{g.Lets[n-1].Code}, g.Outs...)
		checkSameField(t, f, g, false)
		if !exactCodes(tree.Codes(f), tree.Codes(g)) {
			t.Fatal("the fields should have the same expressions in order")
		}
	}
}

func TestWhatFollows(t *testing.T) {
	all := pool(7, 3)
	for _, e := range all {
		code := e.code()
		parts, ok := tree.Parts(code)
		if !ok || !exactCode(append(slices.Concat(parts...), code[len(code)-1]), code) {
			t.Fatalf("Parts(%v): %v, %v, and the last node, aren't the expression", code, parts, ok)
		}
		deepest := 0
		for _, p := range parts {
			if !tree.Right(p) {
				t.Fatalf("Parts(%v): %v is no expression", code, p)
			}
			deepest = max(deepest, tree.Depth(p))
		}
		checkDepth(t, code, deepest+1)
		for k := 1; k <= len(code); k++ {
			if tree.Right(code[k:]) || tree.Depth(code[k:]) != 0 {
				t.Fatalf("%v is an expression, and without %d nodes at its beginning, too", code, k)
			}
		}
	}
	for _, a := range all[:60] {
		for _, b := range all[:60] {
			made := slices.Concat(a.code(), b.code(), nodes(8))
			checkWrong(t, made, -1)
			checkParts(t, made, a.code(), b.code())
			checkDepth(t, made, 1+max(a.depth(), b.depth()))
			checkWrong(t, slices.Concat(a.code(), b.code()), len(a.code())+len(b.code()))
		}
	}
}

// loan is a field, or code, in memory that has something behind each list's length, and what should stand there.
type loan struct {
	lets    []let
	outs    [][]node
	codes   [][]node
	numbers [][]uint32
}

func (l *loan) number(n []uint32) []uint32 {
	room := append(slices.Clone(n), 77, 0, 99)[:len(n)]
	l.numbers = append(l.numbers, room)
	return room
}

// code has behind it nodes that would go on with it.
func (l *loan) code(code []node) []node {
	var room []node
	for _, n := range code {
		room = append(room, node{Op: n.Op, I: n.I, N: l.number(n.N)})
	}
	room = append(room, node{Op: 2, I: 3, N: l.number([]uint32{4})}, node{Op: 6}, node{Op: 7})[:len(code)]
	l.codes = append(l.codes, room)
	return room
}

func (l *loan) field(f field) field {
	for _, x := range f.Lets {
		l.lets = append(l.lets, let{x.Name, l.code(x.Code)})
	}
	for _, out := range f.Outs {
		l.outs = append(l.outs, l.code(out))
	}
	l.lets = append(l.lets, let{"spare", l.code(nodes(1))}, let{})[:len(f.Lets)]
	l.outs = append(l.outs, l.code(nodes(2)), nil)[:len(f.Outs)]
	return field{l.lets, l.outs}
}

// whole are lists with their spare room.
func whole[T any](l []T) []T { return l[:cap(l):cap(l)] }

// seen is all that was lent, spare room too, as a text.
func (l *loan) seen() string {
	var s strings.Builder
	fmt.Fprintln(&s, whole(l.lets), whole(l.outs))
	for _, code := range l.codes {
		fmt.Fprintln(&s, whole(code))
	}
	for _, n := range l.numbers {
		fmt.Fprintln(&s, whole(n))
	}
	return s.String()
}

// spoil writes on all that was lent, spare room too.
func (l *loan) spoil() {
	for _, n := range l.numbers {
		for i := range whole(n) {
			whole(n)[i] = 123456
		}
	}
	for _, code := range l.codes {
		for i := range whole(code) {
			whole(code)[i] = node{Op: -9, I: -9}
		}
	}
	clear(whole(l.lets))
	clear(whole(l.outs))
}

// written are expressions, and what is none, with numbers in all forms.
func written() [][]node {
	l := [][]node{nil, {}, nodes(0), nodes(6), nodes(1, 2), nodes(1, 7), nodes(2, 12), {{Op: 1, N: []uint32{5, 0}}}, {{Op: 1, N: []uint32{}}, {Op: 6, I: 1, N: []uint32{0}}}}
	for _, e := range pool(5, 2) {
		l = append(l, e.code())
	}
	return append(l, chain(50), toTheLeft(40), toTheRight(40), full(6), noise(30, 5, slices.Concat(leaves, ones, twos)))
}

func fields() []field {
	l := []field{{}, {Lets: []let{{"x", nodes(1)}}}, {Outs: [][]node{nodes(2)}}, {Lets: []let{{"", nil}}, Outs: [][]node{nil, {}}}}
	all := written()
	for i := range all[:len(all)-2] {
		l = append(l, field{Lets: []let{{"a", all[i]}, {"b", all[i+1]}}, Outs: all[i : i+3]})
	}
	return append(l, many(20, 20), many(300, 3))
}

func TestWhatIsHandedInIsLeft(t *testing.T) {
	for _, code := range written() {
		var l loan
		lent, twin := l.code(code), l.code(code)
		before := l.seen()
		tree.Wrong(lent)
		tree.Right(lent)
		tree.Depth(lent)
		tree.Parts(lent)
		checkSame(t, lent, twin, true)
		checkSame(t, lent, lent, true)
		if got := l.seen(); got != before {
			t.Fatalf("of %v is left\n%s; want\n%s", code, got, before)
		}
		// What lies behind the length isn't read either.
		checkEither(t, lent)
		if told(code) == -1 {
			checkMade(t, lent, remade(code))
		}
	}
	for _, f := range fields() {
		var l, m loan
		lent, twin := l.field(f), m.field(f)
		before, beside := l.seen(), m.seen()
		tree.Size(lent)
		tree.Codes(lent)
		checkSameField(t, lent, twin, true)
		checkSameField(t, lent, lent, true)
		if l.seen() != before || m.seen() != beside {
			t.Fatalf("of %v is left\n%s; want\n%s", f, l.seen(), before)
		}
		checkField(t, lent, tree.Size(f), tree.Codes(f)...)
	}
}

// remade is the tree of an expression.
func remade(code []node) expr {
	var free []expr
	for _, n := range code {
		from := len(free) - arity(n.Op)
		free = append(free[:from:from], expr{n, slices.Clone(free[from:])})
	}
	return free[0]
}

// When a call has answered, what it was given may be written on.
func TestWhatIsHandedInIsNotKept(t *testing.T) {
	for _, code := range written() {
		var l loan
		got, ok := tree.Parts(l.code(code))
		l.spoil()
		want, again := tree.Parts(code)
		if ok != again || !exactCodes(got, want) {
			t.Fatalf("Parts(%v), written on behind the call: %v; want %v", code, got, want)
		}
	}
	for _, f := range fields() {
		var l loan
		got := tree.Codes(l.field(f))
		l.spoil()
		if want := tree.Codes(f); !exactCodes(got, want) {
			t.Fatalf("Codes(%v), written on behind the call: %v; want %v", f, got, want)
		}
	}
}

// spoilCodes writes on an answer, spare room too.
func spoilCodes(codes [][]node) {
	for _, code := range whole(codes) {
		for i, n := range whole(code) {
			for j := range whole(n.N) {
				whole(n.N)[j] = 654321
			}
			whole(code)[i] = node{Op: -8}
		}
	}
	clear(whole(codes))
}

// What an answer is made into is seen neither in what was handed in nor in another answer.
func TestAnswersMayBeWrittenOn(t *testing.T) {
	for _, code := range written() {
		var l loan
		lent := l.code(code)
		before := l.seen()
		first, _ := tree.Parts(lent)
		second, _ := tree.Parts(lent)
		want := deepCodes(second)
		spoilCodes(first)
		if l.seen() != before || !exactCodes(second, want) {
			t.Fatalf("Parts(%v), written on: there is %v; want %v", code, second, want)
		}
	}
	for _, f := range fields() {
		var l loan
		lent := l.field(f)
		before := l.seen()
		first, second := tree.Codes(lent), tree.Codes(lent)
		want := deepCodes(second)
		spoilCodes(first)
		if l.seen() != before || !exactCodes(second, want) {
			t.Fatalf("Codes(%v), written on: there is %v; want %v", f, second, want)
		}
	}
}

// owners are pieces of memory, each of which just one may have.
type owners struct {
	from, behind []uintptr
	who          []string
	held         []any
}

// claim takes the spare room of l, too.
func claim[T any](t *testing.T, o *owners, who string, l []T) {
	t.Helper()
	var one T
	size := uintptr(cap(l)) * unsafe.Sizeof(one)
	if size == 0 {
		return
	}
	start := uintptr(unsafe.Pointer(unsafe.SliceData(l)))
	for i := range o.from {
		if start < o.behind[i] && o.from[i] < start+size {
			t.Fatalf("%s shares memory with %s", who, o.who[i])
		}
	}
	o.from, o.behind, o.who = append(o.from, start), append(o.behind, start+size), append(o.who, who)
	// What isn't held any more could be given to another one.
	o.held = append(o.held, l)
}

func claimCodes(t *testing.T, o *owners, who string, codes [][]node) {
	t.Helper()
	claim(t, o, who, codes)
	for _, code := range codes {
		claim(t, o, "a list of "+who, code)
		for _, n := range code {
			claim(t, o, "a number of "+who, n.N)
		}
	}
}

func TestAnswersAreNewMemory(t *testing.T) {
	for _, code := range written() {
		var l loan
		var o owners
		lent := l.code(code)
		claimCodes(t, &o, "the code", [][]node{lent})
		for range 2 {
			parts, _ := tree.Parts(lent)
			claimCodes(t, &o, "what Parts answers", parts)
		}
	}
	for _, f := range fields()[:60] {
		var l loan
		var o owners
		lent := l.field(f)
		claim(t, &o, "the lets", lent.Lets)
		claim(t, &o, "the outs", lent.Outs)
		for range 2 {
			claimCodes(t, &o, "what Codes answers", tree.Codes(lent))
		}
	}
	// A field may have one list, and one number, more than once; an answer hasn't.
	n := node{Op: 1, N: []uint32{7, 8}}
	code := []node{n, n, {Op: 9}}
	var o owners
	claimCodes(t, &o, "what Codes answers", tree.Codes(field{Lets: []let{{"x", code}, {"y", code}}, Outs: [][]node{code, code[:2], code}}))
	parts, _ := tree.Parts(code)
	claimCodes(t, &o, "what Parts answers", parts)
}

// One list is both arguments, or a piece of the other one.
func TestOneListAsBothArguments(t *testing.T) {
	for _, code := range written() {
		checkSame(t, code, code, true)
		for k := 1; k <= len(code); k++ {
			checkSame(t, code, code[k:], false)
			checkSame(t, code, code[:len(code)-k], false)
		}
	}
	code := []node{{Op: 1, N: []uint32{3}}, {Op: 1, N: []uint32{3, 0}}, {Op: 1, N: []uint32{3}}}
	checkSame(t, code[:2], code[1:], true)
	for _, f := range fields() {
		checkSameField(t, f, f, true)
		checkSameField(t, field{f.Lets, nil}, f, len(f.Outs) == 0)
		checkSameField(t, field{nil, f.Outs}, f, len(f.Lets) == 0)
	}
}

// The same call tells the same, whatever was asked between.
func TestTheSameAgain(t *testing.T) {
	ask := func(code []node) string {
		parts, ok := tree.Parts(code)
		f := field{Lets: []let{{"x", code}}, Outs: [][]node{code, nil}}
		return fmt.Sprint(tree.Wrong(code), tree.Right(code), tree.Depth(code), parts, ok, tree.Same(code, nodes(2)), tree.Size(f), tree.Codes(f), tree.SameField(f, field{}))
	}
	l := written()
	var first []string
	for _, code := range l {
		first = append(first, ask(code))
	}
	for i := len(l) - 1; i >= 0; i-- {
		if again := ask(l[i]); again != first[i] {
			t.Fatalf("of %v is told %s, and again %s", l[i], first[i], again)
		}
	}
}

func TestExamples(t *testing.T) {
	sum := nodes(tree.OpConst, tree.OpTime, tree.OpAdd)
	checkWrong(t, sum, -1)
	checkParts(t, sum, nodes(tree.OpConst), nodes(tree.OpTime))
	checkWrong(t, nodes(tree.OpAdd), 0)
	checkWrong(t, nodes(tree.OpConst, tree.OpConst), 2)
}
