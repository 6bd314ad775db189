package grid_test

import (
	"fmt"
	"math"
	"math/big"
	"slices"
	"strings"
	"testing"

	"retrospect/frac"
	"retrospect/grid"
	"retrospect/row"
	"retrospect/whole"
)

const (
	greatest = 0xffffffff
	// As the document names them.
	maxDim   = 6
	maxNodes = 300
)

type (
	list     = []uint32
	number   = whole.Whole
	fraction = frac.Frac
	fracs    = []frac.Frac
	matrix   = [][]frac.Frac
	rats     = []*big.Rat
	// told is a matrix by its values.
	told = []rats
)

func plus(w ...uint32) number { return number{Abs: w} }

func minus(w ...uint32) number { return number{Neg: true, Abs: w} }

// over writes a fraction as it stands, right or not.
func over(num number, den ...uint32) fraction { return fraction{Num: num, Den: den} }

func repeat(w uint32, n int) list { return slices.Repeat(list{w}, n) }

func behind(a list, w ...uint32) list { return append(slices.Clone(a), w...) }

func natural(a list) *big.Int {
	n := new(big.Int)
	for i := len(a) - 1; i >= 0; i-- {
		n.Or(n.Lsh(n, 32), big.NewInt(int64(a[i])))
	}
	return n
}

func value(a fraction) *big.Rat {
	den := natural(a.Den)
	if den.Sign() == 0 {
		return new(big.Rat)
	}
	num := natural(a.Num.Abs)
	if a.Num.Neg {
		num.Neg(num)
	}
	return new(big.Rat).SetFrac(num, den)
}

func values(a fracs) rats {
	var l rats
	for _, c := range a {
		l = append(l, value(c))
	}
	return l
}

func valuesOf(m matrix) told {
	var l told
	for _, r := range m {
		l = append(l, values(r))
	}
	return l
}

func words(n *big.Int) list {
	var a list
	for n = new(big.Int).Abs(n); n.Sign() > 0; n.Rsh(n, 32) {
		a = append(a, uint32(n.Uint64()))
	}
	return a
}

// of is the right fraction of a value, as math/big cancels it.
func of(r *big.Rat) fraction {
	return fraction{Num: number{Neg: r.Sign() < 0, Abs: words(r.Num())}, Den: words(r.Denom())}
}

// fr is told by a whole number, or by two with a / between.
func fr(s string) fraction {
	r, ok := new(big.Rat).SetString(s)
	if !ok {
		panic(s + " is no fraction")
	}
	return of(r)
}

// line is a row of right fractions, told with spaces between.
func line(s string) fracs {
	var a fracs
	for _, c := range strings.Fields(s) {
		a = append(a, fr(c))
	}
	return a
}

// lines is a matrix of right fractions, its rows told with commas between.
func lines(s string) matrix {
	var m matrix
	for r := range strings.SplitSeq(s, ",") {
		m = append(m, line(r))
	}
	return m
}

// blank has rows of no fractions, nil ones and empty ones.
func blank(n int) matrix {
	m := make(matrix, n)
	for i := range m {
		if i%2 == 1 {
			m[i] = fracs{}
		}
	}
	return m
}

// same tells whether two are the same to the word; nil and empty lists are one.
func same(a, b fraction) bool {
	return a.Num.Neg == b.Num.Neg && slices.Equal(a.Num.Abs, b.Num.Abs) && slices.Equal(a.Den, b.Den)
}

func sameLine(a, b fracs) bool { return slices.EqualFunc(a, b, same) }

func sameLines(a, b matrix) bool { return slices.EqualFunc(a, b, sameLine) }

// nought is 0 as a right fraction.
func nought() fraction { return over(plus(), 1) }

// What fails on one of the lists without a pattern must fail again, so they are always the same ones.
func noise(n int) list {
	x := uint32(2463534242) + uint32(n)
	a := make(list, n)
	for i := range a {
		x ^= x << 13
		x ^= x >> 17
		x ^= x << 5
		a[i] = x
	}
	return a
}

// several are fractions right, and not right in all ways, some of one value in several ways.
func several() fracs {
	return fracs{
		over(plus(1), 2), over(minus(3), 4), over(plus(5), 1), nought(), over(minus(1), 1), over(plus(2), 4), over(minus(6, 0), 4, 0), over(plus(7)), {}, over(minus(7), 0), over(minus(0), 6, 0), {Num: minus(1, 2, 3), Den: repeat(0, 100)},
		over(plus(4), 6), over(plus(2), 3), over(minus(14), 0, 7), over(plus(1), greatest), over(minus(0, 1), 6), over(plus(greatest, greatest), greatest), over(plus(1, 1), 1, 0), over(minus(5), 12), over(plus(7, 0), 18, 0, 0),
		over(plus(noise(3)...), noise(2)...), over(minus(noise(2)...), behind(noise(3), 0)...), over(minus(12), 18), over(plus(1, 0), 1), over(minus(), 3), over(plus(0x80000000), 0, 0, 1), over(minus(greatest), 0xfffffffe), over(plus(noise(5)...), 12), over(minus(18), noise(4)...),
	}
}

// wound is a row of several's fractions, n of them from one place on, round and round.
func wound(n, from, by int) fracs {
	all := several()
	var a fracs
	for i := range n {
		a = append(a, all[(from+i*by)%len(all)])
	}
	return a
}

// block has so many rows of that width, no two of two fractions or more alike.
func block(count, width, from int) matrix {
	var m matrix
	for i := range count {
		m = append(m, wound(width, from+3*i+width, 2*i+1))
	}
	return m
}

// blocks are right matrices of all shapes up to four rows of four, and of some greater ones.
func blocks() []matrix {
	l := []matrix{nil, {}, lines("1"), lines("-1/2"), lines("0"), lines("1 2, 3 4"), lines("0 1, 1 0"), {{over(plus(2), 2), over(plus(4, 0), 2)}, {over(plus(9), 3), over(minus(0, 4), 0, 1)}}, lines("0 0, 0 0, 0 0")}
	for count := 1; count <= 4; count++ {
		l = append(l, blank(count))
		for width := 1; width <= 4; width++ {
			l = append(l, block(count, width, count), block(count, width, 5*count+11))
		}
	}
	return append(l, blank(9), block(1, 9, 4), block(9, 1, 2), block(7, 8, 0), block(8, 7, 13))
}

// bent are matrices that aren't right: one row is longer or shorter than all others, and stands at each place once.
func bent() []matrix {
	l := []matrix{lines("1, 2 3"), lines("1 2, 3"), {nil, {{}}}, {{{}}, {}}, lines("1 2, 3 4 5, 6"), lines("1, 2 3, 4 5 6"), lines("1 2, 3, 4, 5 6"), {nil, line("1 2"), nil}}
	for count := 2; count <= 5; count++ {
		for width := range 4 {
			for place := range count {
				for _, n := range []int{0, width - 1, width + 1, 2 * width, count} {
					if n < 0 || n == width {
						continue
					}
					m := block(count, width, 7)
					m[place] = wound(n, 1, 5)
					l = append(l, m)
				}
			}
		}
	}
	return l
}

// all are right matrices and such as aren't.
func all() []matrix { return append(blocks(), bent()...) }

// isRight holds each row against each other one, as the word says.
func isRight(m matrix) bool {
	for _, a := range m {
		for _, b := range m {
			if len(a) != len(b) {
				return false
			}
		}
	}
	return true
}

// ints are numbers at which something ends, and their neighbours.
func ints() []int {
	l := []int{math.MinInt, math.MinInt + 1, math.MinInt + maxDim, -1 << 32, -1<<32 + 3, math.MaxInt - 1, math.MaxInt, 1 << 32, 1<<32 + 3, 256, 1000000, maxNodes, maxNodes + 1}
	for n := -10; n <= 10; n++ {
		l = append(l, n)
	}
	return l
}

// A call is written out only where it fails, as most are long.
type call struct {
	name string
	with []any
}

func calling(name string, with ...any) call { return call{name, with} }

func (c call) String() string { return fmt.Sprint(c.name, c.with) }

func checkLine(t *testing.T, c call, got fracs, want rats) {
	t.Helper()
	checkLines(t, c, matrix{got}, told{want})
}

func checkLines(t *testing.T, c call, got matrix, want told) {
	t.Helper()
	if len(got) != len(want) {
		t.Fatalf("%s: %d rows; want %d", c, len(got), len(want))
	}
	for i, r := range got {
		if len(r) != len(want[i]) {
			t.Fatalf("%s: row %d: %d fractions; want %d", c, i, len(r), len(want[i]))
		}
		for k, a := range r {
			if !same(a, of(want[i][k])) {
				t.Fatalf("%s: row %d: at %d %v; want %v", c, i, k, a, of(want[i][k]))
			}
		}
	}
}

func checkTrue(t *testing.T, c call, ok bool) {
	t.Helper()
	if !ok {
		t.Fatalf("%s: false", c)
	}
}

// checkNone asks for what stands beside a false, too; of a row and of a matrix.
func checkNone[E any](t *testing.T, c call, got []E, ok bool) {
	t.Helper()
	if ok || len(got) > 0 {
		t.Fatalf("%s: %v, %v; want none, false", c, got, ok)
	}
}

func zeros(n int) rats {
	var l rats
	for range n {
		l = append(l, new(big.Rat))
	}
	return l
}

func turned(m told) told {
	var l told
	if len(m) == 0 {
		return nil
	}
	for i := range m[0] {
		var r rats
		for k := range m {
			r = append(r, m[k][i])
		}
		l = append(l, r)
	}
	return l
}

func dot(a, b rats) *big.Rat {
	s := new(big.Rat)
	for i := range a {
		s.Add(s, new(big.Rat).Mul(a[i], b[i]))
	}
	return s
}

// left adds to each place what each row has there, so many times.
func left(r rats, m told) rats {
	if len(m) == 0 {
		return nil
	}
	l := zeros(len(m[0]))
	for k := range m {
		for i := range l {
			l[i].Add(l[i], new(big.Rat).Mul(r[k], m[k][i]))
		}
	}
	return l
}

func applied(m told, c rats) rats {
	var l rats
	for _, r := range m {
		l = append(l, dot(r, c))
	}
	return l
}

func product(a, b told) told {
	var l told
	for _, r := range a {
		l = append(l, left(r, b))
	}
	return l
}

func sum(a, b told) told {
	var l told
	for k := range a {
		var r rats
		for i := range a[k] {
			r = append(r, new(big.Rat).Add(a[k][i], b[k][i]))
		}
		l = append(l, r)
	}
	return l
}

func TestRightAndWidthTable(t *testing.T) {
	for i, c := range []struct {
		m     matrix
		right bool
		width int
	}{
		{nil, true, 0},
		{matrix{}, true, 0},
		{matrix{nil}, true, 0},
		{matrix{{}}, true, 0},
		{matrix{nil, {}}, true, 0},
		{matrix{{}, nil, {}}, true, 0},
		{lines("1"), true, 1},
		{matrix{{{}}}, true, 1},
		{lines("1 2 3"), true, 3},
		{lines("1, 2, 3"), true, 1},
		{lines("1 2, 3 4"), true, 2},
		{lines("1 2 3, 4 5 6"), true, 3},
		{lines("1 2, 3 4, 5 6"), true, 2},
		{matrix{{over(plus(7)), over(minus(0), 0)}, {{}, over(plus(2), 4, 0)}}, true, 2},
		{lines("1 2 3, 4 5, 6 7"), false, 3},
		{lines("1, 2 3, 4 5"), false, 1},
		{lines("1 2, 3 4 5, 6 7"), false, 2},
		{lines("1 2, 3, 4 5"), false, 2},
		{lines("1 2, 3 4, 5 6 7"), false, 2},
		{lines("1 2, 3 4, 5"), false, 2},
		{matrix{nil, line("1")}, false, 0},
		{matrix{line("1"), nil}, false, 1},
		{matrix{{}, {}, {{}}}, false, 0},
		{matrix{{{}}, {}, {{}}}, false, 1},
		{lines("1, 2 3, 4"), false, 1},
		{lines("1 2, 3, 4 5 6"), false, 2},
	} {
		if right, width := grid.Right(c.m), grid.Width(c.m); right != c.right || width != c.width {
			t.Errorf("%d: %v: %v, %d; want %v, %d", i, c.m, right, width, c.right, c.width)
		}
	}
}

func TestRightAndWidth(t *testing.T) {
	for _, m := range blocks() {
		if !grid.Right(m) {
			t.Fatalf("%v isn't right", m)
		}
	}
	for _, m := range bent() {
		if grid.Right(m) {
			t.Fatalf("%v is right", m)
		}
	}
	for _, m := range all() {
		want := 0
		if len(m) > 0 {
			want = len(m[0])
		}
		if got := grid.Width(m); got != want || grid.Right(m) != isRight(m) {
			t.Fatalf("%v: %v, %d; want %v, %d", m, grid.Right(m), got, isRight(m), want)
		}
	}
}

// The unlike row stands at each place of many rows once.
func TestRightOfManyRows(t *testing.T) {
	for _, count := range []int{2, 3, 7, maxNodes + 1} {
		for _, width := range []int{0, 1, 2, 7, maxNodes, 2000} {
			r := wound(width, 0, 1)
			m := slices.Repeat(matrix{r}, count)
			if !grid.Right(m) || grid.Width(m) != width {
				t.Fatalf("%d rows of %d: %v, %d", count, width, grid.Right(m), grid.Width(m))
			}
			for place := range count {
				for _, n := range []int{0, width - 1, width + 1} {
					if n < 0 || n == width {
						continue
					}
					m[place] = wound(n, 0, 1)
					want := width
					if place == 0 {
						want = n
					}
					if grid.Right(m) || grid.Width(m) != want {
						t.Fatalf("%d rows of %d, that at %d of %d: %v, %d", count, width, place, n, grid.Right(m), grid.Width(m))
					}
				}
				m[place] = r
			}
		}
	}
}

func TestIdent(t *testing.T) {
	for _, n := range ints() {
		cut := min(max(n, 0), maxDim)
		var want told
		for i := range cut {
			r := zeros(cut)
			r[i].SetInt64(1)
			want = append(want, r)
		}
		call := calling("Ident", n)
		got := grid.Ident(n)
		checkLines(t, call, got, want)
		if !grid.Right(got) || grid.Width(got) != cut {
			t.Fatalf("%s: %v", call, got)
		}
		for i, r := range got {
			if !sameLine(r, row.Unit(cut, i)) {
				t.Fatalf("%s: row %d: %v", call, i, r)
			}
		}
	}
}

func TestIdentTable(t *testing.T) {
	six := lines("1 0 0 0 0 0, 0 1 0 0 0 0, 0 0 1 0 0 0, 0 0 0 1 0 0, 0 0 0 0 1 0, 0 0 0 0 0 1")
	for _, c := range []struct {
		n    int
		want matrix
	}{
		{math.MinInt, nil},
		{-1, nil},
		{0, nil},
		{1, lines("1")},
		{2, lines("1 0, 0 1")},
		{3, lines("1 0 0, 0 1 0, 0 0 1")},
		{maxDim, six},
		{maxDim + 1, six},
		{math.MaxInt, six},
	} {
		if got := grid.Ident(c.n); !sameLines(got, c.want) {
			t.Errorf("Ident(%d): %v; want %v", c.n, got, c.want)
		}
	}
}

func TestSameTable(t *testing.T) {
	for i, c := range []struct {
		a, b matrix
		want bool
	}{
		{nil, nil, true},
		{nil, matrix{}, true},
		{matrix{}, nil, true},
		{nil, matrix{nil}, false},
		{matrix{{}}, matrix{}, false},
		{matrix{nil}, matrix{{}}, true},
		{matrix{nil}, matrix{nil, nil}, false},
		{matrix{nil, {}}, matrix{{}, nil}, true},
		{matrix{nil}, matrix{{{}}}, false},
		{lines("1"), lines("1"), true},
		{lines("1"), lines("-1"), false},
		{lines("1 2, 3 4"), lines("1 2, 3 4"), true},
		{lines("1 2, 3 4"), lines("1 2, 3 5"), false},
		{lines("1 2, 3 4"), lines("0 2, 3 4"), false},
		{lines("1 2, 3 4"), lines("3 4, 1 2"), false},
		{lines("1 2, 3 4"), lines("1 3, 2 4"), false},
		{lines("1 2, 3 4"), lines("1 2"), false},
		{lines("1 2"), lines("1 2, 3 4"), false},
		{lines("1 2, 3 4"), lines("1 2, 3 4, 5 6"), false},
		{lines("1 2, 3 4"), lines("1 2 3 4"), false},
		{lines("1 2 3 4"), lines("1 2, 3 4"), false},
		{lines("1 2 3, 4 5 6"), lines("1 2, 3 4, 5 6"), false},
		{lines("1 2"), lines("1, 2"), false},
		{lines("1 2, 3"), lines("1, 2 3"), false},
		{lines("1, 2 3"), lines("1 2, 3"), false},
		{matrix{line("1 2"), nil}, matrix{nil, line("1 2")}, false},
		{matrix{line("1 2"), nil}, lines("1, 2"), false},
		{lines("1 2, 3"), lines("1 2, 3"), true},
		{matrix{line("1 2"), nil}, matrix{line("1 2"), {}}, true},
		{lines("1 2, 3"), lines("1 2, 3 0"), false},
		{lines("1 2, 3 0"), lines("1 2, 3"), false},
		{lines("1, 2, 3 4 5"), lines("1, 2, 3 4 5"), true},
		{lines("1, 2, 3 4 5"), lines("1, 2, 3 4 6"), false},
		{matrix{{over(plus(2), 4), over(minus(6, 0), 4, 0)}}, lines("1/2 -3/2"), true},
		{matrix{{over(plus(2), 4)}, {over(plus(3, 0), 3)}}, matrix{{over(plus(3), 6, 0)}, {over(plus(1), 1)}}, true},
		{matrix{{{}}, {over(plus(7))}}, lines("0, 0"), true},
		{matrix{{{}}, {over(minus(7), 0)}}, matrix{{over(minus(0), 5)}, {nought()}}, true},
		{matrix{{over(plus(7))}}, lines("7"), false},
		{matrix{{over(plus(0, 1), 0, 1)}}, lines("1"), true},
	} {
		if got := grid.Same(c.a, c.b); got != c.want {
			t.Errorf("%d: Same(%v, %v): %v", i, c.a, c.b, got)
		}
	}
}

func TestSameIsThatOfTheValues(t *testing.T) {
	equal := func(x, y *big.Rat) bool { return x.Cmp(y) == 0 }
	equals := func(x, y rats) bool { return slices.EqualFunc(x, y, equal) }
	for _, a := range all() {
		for _, b := range all() {
			if got, want := grid.Same(a, b), slices.EqualFunc(valuesOf(a), valuesOf(b), equals); got != want {
				t.Fatalf("Same(%v, %v): %v", a, b, got)
			}
		}
	}
}

// Told in other words at all places it's the same; with another value at one place it isn't, nor without its last row.
func TestSameAtEachPlace(t *testing.T) {
	for _, a := range all() {
		var b matrix
		for _, r := range a {
			b = append(b, nil)
			for _, x := range values(r) {
				c := of(x)
				b[len(b)-1] = append(b[len(b)-1], over(number{Neg: c.Num.Neg, Abs: behind(c.Num.Abs, 0)}, behind(c.Den, 0, 0)...))
			}
		}
		if !grid.Same(a, b) || !grid.Same(b, a) {
			t.Fatalf("%v, %v: not the same", a, b)
		}
		if len(a) > 0 && (grid.Same(a, b[:len(b)-1]) || grid.Same(b[:len(b)-1], a)) {
			t.Fatalf("%v without its last row: the same", b)
		}
		for i := range b {
			for k := range b[i] {
				c := b[i][k]
				b[i][k] = frac.Add(c, over(plus(1), 0, 0, 1))
				if grid.Same(a, b) || grid.Same(b, a) {
					t.Fatalf("%v, %v: the same", a, b)
				}
				b[i][k] = c
			}
		}
	}
}

func TestTurnTable(t *testing.T) {
	for i, c := range []struct{ m, want matrix }{
		{nil, nil},
		{matrix{}, nil},
		{matrix{nil}, nil},
		{matrix{{}, nil, {}}, nil},
		{lines("5"), lines("5")},
		{lines("1 2 3"), lines("1, 2, 3")},
		{lines("1, 2, 3"), lines("1 2 3")},
		{lines("1 2, 3 4"), lines("1 3, 2 4")},
		{lines("1 2 3, 4 5 6"), lines("1 4, 2 5, 3 6")},
		{lines("1 2, 3 4, 5 6"), lines("1 3 5, 2 4 6")},
		{matrix{{over(plus(2), 4), over(plus(7))}, {{}, over(minus(6, 0), 4, 0)}}, lines("1/2 0, 0 -3/2")},
		{lines("1 2, 3"), nil},
		{lines("1, 2 3"), nil},
		{lines("1 2, 3 4 5, 6 7"), nil},
		{lines("1 2, 3, 4 5"), nil},
		{lines("1 2, 3 4, 5"), nil},
		{lines("1 2, 3 4, 5 6 7"), nil},
		{lines("1 2 3, 4 5, 6 7"), nil},
		{matrix{nil, line("1")}, nil},
		{matrix{line("1"), nil}, nil},
	} {
		if got := grid.Turn(c.m); !sameLines(got, c.want) {
			t.Errorf("%d: Turn(%v): %v; want %v", i, c.m, got, c.want)
		}
	}
}

func TestTurn(t *testing.T) {
	for _, m := range append(blocks(), block(1, 2000, 3), block(2000, 1, 3), block(maxNodes+1, 2, 3), block(2, maxNodes+1, 3)) {
		got := grid.Turn(m)
		checkLines(t, calling("Turn", m), got, turned(valuesOf(m)))
		if grid.Width(m) > 0 && !grid.Same(grid.Turn(got), m) {
			t.Fatalf("%v turned twice: %v", m, grid.Turn(got))
		}
	}
	for _, m := range bent() {
		if got := grid.Turn(m); len(got) > 0 {
			t.Fatalf("Turn(%v): %v", m, got)
		}
	}
}

func TestLeftTable(t *testing.T) {
	for i, c := range []struct {
		r    fracs
		m    matrix
		want fracs
		ok   bool
	}{
		{nil, nil, nil, true},
		{fracs{}, matrix{}, nil, true},
		{line("1 1"), lines("1 2, 3 4"), line("4 6"), true},
		{line("2"), lines("1 2 3"), line("2 4 6"), true},
		{line("1 10 100"), lines("1, 2, 3"), line("321"), true},
		{line("1 10 100"), lines("1 4, 2 5, 3 6"), line("321 654"), true},
		{line("1/2 -1/3"), lines("1 2 0, 3 6 1"), line("-1/2 -1 -1/3"), true},
		{line("0 0"), lines("1 2, 3 4"), line("0 0"), true},
		{line("1"), matrix{{over(plus(2), 4), over(minus(6, 0), 4)}}, line("1/2 -3/2"), true},
		{fracs{over(plus(2), 4), over(plus(7))}, lines("4 6, 1 1"), line("2 3"), true},
		{fracs{{}, over(minus(0), 0)}, lines("4 6, 1 1"), line("0 0"), true},
		{line("1"), matrix{nil}, nil, true},
		{line("1 2 3"), matrix{nil, {}, nil}, nil, true},
		{line("1"), nil, nil, false},
		{fracs{{}}, matrix{}, nil, false},
		{nil, lines("1 2"), nil, false},
		{nil, matrix{nil}, nil, false},
		{line("1 2"), matrix{nil}, nil, false},
		{line("1"), matrix{nil, nil}, nil, false},
		{line("1"), lines("1 2, 3 4"), nil, false},
		{line("1 2 3"), lines("1 2, 3 4"), nil, false},
		{line("1 2 3"), lines("1 2 3, 4 5 6"), nil, false},
		{line("1 2 0"), lines("1 2, 3 4"), nil, false},
		{line("1 2"), lines("1 2, 3"), nil, false},
		{line("1 2"), lines("1, 2 3"), nil, false},
		{line("1 2"), matrix{nil, line("1")}, nil, false},
		{line("1 2"), matrix{line("1"), nil}, nil, false},
		{line("1 2 3"), lines("1 2, 3 4 5, 6 7"), nil, false},
		{line("1 2 3"), lines("1 2, 3 4, 5"), nil, false},
		{line("0 0 1"), lines("1, 2, 3 4"), nil, false},
	} {
		if got, ok := grid.Left(c.r, c.m); !sameLine(got, c.want) || ok != c.ok {
			t.Errorf("%d: Left(%v, %v): %v, %v; want %v, %v", i, c.r, c.m, got, ok, c.want, c.ok)
		}
	}
}

func TestApplyTable(t *testing.T) {
	for i, c := range []struct {
		m    matrix
		c    fracs
		want fracs
		ok   bool
	}{
		{nil, nil, nil, true},
		{matrix{}, fracs{}, nil, true},
		{lines("1 2, 3 4"), line("1 1"), line("3 7"), true},
		{lines("1 2 3"), line("1 10 100"), line("321"), true},
		{lines("1, 2, 3"), line("2"), line("2 4 6"), true},
		{lines("1 2 3, 4 5 6"), line("1 10 100"), line("321 654"), true},
		{lines("1/2 -1/3, 2 0"), line("3 6"), line("-1/2 6"), true},
		{lines("1 2, 3 4"), line("0 0"), line("0 0"), true},
		{matrix{{over(plus(2), 4)}, {over(minus(6, 0), 4)}}, line("1"), line("1/2 -3/2"), true},
		{lines("4 1, 6 1"), fracs{over(plus(2), 4), over(plus(7))}, line("2 3"), true},
		{matrix{nil}, nil, line("0"), true},
		{matrix{nil, {}, nil}, fracs{}, line("0 0 0"), true},
		{nil, line("1"), nil, false},
		{matrix{}, fracs{{}}, nil, false},
		{matrix{nil}, line("1"), nil, false},
		{matrix{nil, {}}, line("1 2"), nil, false},
		{lines("1"), nil, nil, false},
		{lines("1 2, 3 4"), line("1"), nil, false},
		{lines("1 2, 3 4"), line("1 2 3"), nil, false},
		{lines("1 2, 3 4"), line("1 2 0"), nil, false},
		{lines("1 2 3, 4 5 6"), line("1 2"), nil, false},
		{lines("1, 2"), line("1 2"), nil, false},
		{lines("1 2, 3"), line("1 2"), nil, false},
		{lines("1 2, 3"), line("1"), nil, false},
		{lines("1, 2 3"), line("1"), nil, false},
		{lines("1, 2 3"), line("1 2"), nil, false},
		{matrix{nil, line("1")}, nil, nil, false},
		{matrix{nil, line("1")}, line("1"), nil, false},
		{matrix{line("1"), nil}, line("1"), nil, false},
		{lines("1 2, 3 4 5, 6 7"), line("1 2"), nil, false},
		{lines("1 2, 3 4, 5"), line("1 2"), nil, false},
	} {
		if got, ok := grid.Apply(c.m, c.c); !sameLine(got, c.want) || ok != c.ok {
			t.Errorf("%d: Apply(%v, %v): %v, %v; want %v, %v", i, c.m, c.c, got, ok, c.want, c.ok)
		}
	}
}

func checkLeft(t *testing.T, r fracs, m matrix) {
	t.Helper()
	call := calling("Left", r, m)
	got, ok := grid.Left(r, m)
	if !isRight(m) || len(r) != len(m) {
		checkNone(t, call, got, ok)
		return
	}
	checkTrue(t, call, ok)
	checkLine(t, call, got, left(values(r), valuesOf(m)))
}

func checkApply(t *testing.T, m matrix, c fracs) {
	t.Helper()
	call := calling("Apply", m, c)
	got, ok := grid.Apply(m, c)
	width := 0
	if len(m) > 0 {
		width = len(m[0])
	}
	if !isRight(m) || len(c) != width {
		checkNone(t, call, got, ok)
		return
	}
	checkTrue(t, call, ok)
	checkLine(t, call, got, applied(valuesOf(m), values(c)))
}

func TestLeftAndApply(t *testing.T) {
	for _, m := range all() {
		for n := range 11 {
			for from := range 4 {
				r := wound(n, 8*from, from+1)
				checkLeft(t, r, m)
				checkApply(t, m, r)
			}
		}
	}
}

// The chapter names no limit of rows nor of widths.
func TestOfGreatMatrices(t *testing.T) {
	for _, n := range []int{maxDim + 1, maxNodes, maxNodes + 1, 2000} {
		r := wound(n, 3, 7)
		flat, steep := block(2, n, 5), block(n, 2, 5)
		checkLeft(t, r[:2], flat)
		checkLeft(t, r[:1], flat[:1])
		checkLeft(t, r, flat)
		checkLeft(t, r[:n-1], steep)
		checkApply(t, flat, r)
		checkApply(t, steep, r[:2])
		checkApply(t, flat, r[:n-1])
		checkMul(t, steep, block(2, 1, 3))
		checkMul(t, block(1, 2, 3), flat)
		checkAdd(t, flat, block(2, n, 1))
		checkAdd(t, steep, block(n, 2, 1))
		checkAdd(t, flat, block(2, n-1, 1))
		checkAdd(t, steep, block(n-1, 2, 1))
	}
	// Sums of many become long, so the fractions are short here.
	for _, n := range []int{maxNodes + 1, 2000} {
		r, flat, steep := make(fracs, n), matrix{make(fracs, n)}, make(matrix, n)
		for i := range n {
			r[i] = over(number{Neg: i%3 == 0, Abs: list{uint32(i), 0}}, uint32(i%11+1))
			flat[0][i] = over(plus(uint32(n-i)), uint32(i%5))
			steep[i] = flat[0][i : i+1]
		}
		checkLeft(t, r, steep)
		checkApply(t, flat, r)
		checkMul(t, flat, steep)
		checkMul(t, matrix{r}, steep)
	}
}

func TestMulTable(t *testing.T) {
	for i, c := range []struct {
		a, b, want matrix
		ok         bool
	}{
		{nil, nil, nil, true},
		{matrix{}, nil, nil, true},
		{nil, matrix{}, nil, true},
		{lines("1 0, 0 1"), lines("1 2 3, 4 5 6"), lines("1 2 3, 4 5 6"), true},
		{lines("1 2, 3 4"), lines("5 6, 7 8"), lines("19 22, 43 50"), true},
		{lines("5 6, 7 8"), lines("1 2, 3 4"), lines("23 34, 31 46"), true},
		{lines("2"), lines("3"), lines("6"), true},
		{lines("1 2 3"), lines("4, 5, 6"), lines("32"), true},
		{lines("4, 5, 6"), lines("1 2 3"), lines("4 8 12, 5 10 15, 6 12 18"), true},
		{lines("1 2"), lines("3 4 5, 6 7 8"), lines("15 18 21"), true},
		{lines("0 1, 0 0"), lines("0 1, 0 0"), lines("0 0, 0 0"), true},
		{lines("1/2 1/3"), lines("2 -2, 3 -3"), lines("2 -2"), true},
		{matrix{{over(plus(2), 4), over(plus(7))}}, matrix{{over(minus(6, 0), 4)}, {over(plus(9), 1)}}, lines("-3/4"), true},
		{matrix{nil, {}, nil}, nil, matrix{nil, nil, nil}, true},
		{matrix{{}}, matrix{}, matrix{{}}, true},
		{lines("1 2, 3 4, 5 6"), matrix{nil, {}}, matrix{nil, nil, nil}, true},
		{lines("1"), matrix{nil}, matrix{nil}, true},
		{nil, lines("1 2"), nil, false},
		{nil, matrix{nil}, nil, false},
		{lines("1 2"), nil, nil, false},
		{lines("1"), matrix{}, nil, false},
		{matrix{nil}, matrix{nil}, nil, false},
		{matrix{nil, nil}, matrix{nil, nil}, nil, false},
		{matrix{nil}, lines("1"), nil, false},
		{lines("1 2"), matrix{nil}, nil, false},
		{lines("1 2"), lines("1 2"), nil, false},
		{lines("1 2, 3 4"), lines("1 2"), nil, false},
		{lines("1 2"), lines("1, 2, 3"), nil, false},
		{lines("1, 2"), lines("1, 2"), nil, false},
		{lines("1, 2"), lines("3 4, 5 6"), nil, false},
		{lines("1 2 3, 4 5 6"), lines("1 2 3, 4 5 6"), nil, false},
		{lines("1 2, 3"), lines("1 2, 3 4"), nil, false},
		{lines("1, 2 3"), lines("1 2"), nil, false},
		{lines("1, 2 3"), lines("1 2, 3 4"), nil, false},
		{lines("1 2, 3 4"), lines("1 2, 3"), nil, false},
		{lines("1 2, 3 4"), lines("1, 2 3"), nil, false},
		{lines("1 2, 3"), lines("1 2, 3"), nil, false},
		{matrix{nil, line("1")}, nil, nil, false},
		{matrix{line("1 2"), nil}, lines("1, 2"), nil, false},
		{nil, lines("1, 2 3"), nil, false},
		{matrix{nil}, lines("1, 2 3"), nil, false},
	} {
		if got, ok := grid.Mul(c.a, c.b); !sameLines(got, c.want) || ok != c.ok {
			t.Errorf("%d: Mul(%v, %v): %v, %v; want %v, %v", i, c.a, c.b, got, ok, c.want, c.ok)
		}
	}
}

func TestAddTable(t *testing.T) {
	for i, c := range []struct {
		a, b, want matrix
		ok         bool
	}{
		{nil, nil, nil, true},
		{matrix{}, nil, nil, true},
		{nil, matrix{}, nil, true},
		{matrix{nil}, matrix{{}}, matrix{nil}, true},
		{matrix{nil, {}, nil}, matrix{nil, nil, {}}, matrix{nil, nil, nil}, true},
		{lines("1 2, 3 4"), lines("5 6, 7 8"), lines("6 8, 10 12"), true},
		{lines("1 2 3"), lines("10 20 30"), lines("11 22 33"), true},
		{lines("1, 2, 3"), lines("10, 20, 30"), lines("11, 22, 33"), true},
		{lines("1/2 1/3, 0 1"), lines("-1/2 1/6, 1 -2"), lines("0 1/2, 1 -1"), true},
		{matrix{{over(plus(2), 4), over(plus(7))}}, matrix{{over(plus(1, 0), 2), over(minus(6), 4, 0)}}, lines("1 -3/2"), true},
		{matrix{{{}, {}}}, matrix{{over(minus(7), 0), over(minus(0), 6)}}, lines("0 0"), true},
		{nil, matrix{nil}, nil, false},
		{matrix{nil}, nil, nil, false},
		{nil, lines("1"), nil, false},
		{lines("1"), nil, nil, false},
		{matrix{nil}, matrix{nil, nil}, nil, false},
		{matrix{nil, nil}, matrix{nil}, nil, false},
		{matrix{nil}, lines("1"), nil, false},
		{lines("1"), matrix{nil}, nil, false},
		{lines("1 2"), lines("1"), nil, false},
		{lines("1"), lines("1 2"), nil, false},
		{lines("1 2"), lines("1 2, 0 0"), nil, false},
		{lines("1 2, 0 0"), lines("1 2"), nil, false},
		{lines("1 2"), lines("1, 2"), nil, false},
		{lines("1 2 3, 4 5 6"), lines("1 2, 3 4, 5 6"), nil, false},
		{lines("1 2, 3 4"), lines("1 2 3, 4 5 6"), nil, false},
		{lines("1 2, 3"), lines("1 2, 3 4"), nil, false},
		{lines("1, 2 3"), lines("1, 2"), nil, false},
		{lines("1 2, 3 4"), lines("1 2, 3"), nil, false},
		{lines("1, 2"), lines("1, 2 3"), nil, false},
		{lines("1 2, 3"), lines("1 2, 3"), nil, false},
		{lines("1 2, 3 4, 5"), lines("1 2, 3 4, 5"), nil, false},
		{lines("1 2, 3"), lines("1, 2 3"), nil, false},
		{matrix{nil, line("1")}, matrix{nil, line("1")}, nil, false},
		{matrix{line("1"), nil}, matrix{line("1"), nil}, nil, false},
	} {
		if got, ok := grid.Add(c.a, c.b); !sameLines(got, c.want) || ok != c.ok {
			t.Errorf("%d: Add(%v, %v): %v, %v; want %v, %v", i, c.a, c.b, got, ok, c.want, c.ok)
		}
	}
}

func checkMul(t *testing.T, a, b matrix) {
	t.Helper()
	call := calling("Mul", a, b)
	got, ok := grid.Mul(a, b)
	width := 0
	if len(a) > 0 {
		width = len(a[0])
	}
	if !isRight(a) || !isRight(b) || width != len(b) {
		checkNone(t, call, got, ok)
		return
	}
	checkTrue(t, call, ok)
	checkLines(t, call, got, product(valuesOf(a), valuesOf(b)))
}

func checkAdd(t *testing.T, a, b matrix) {
	t.Helper()
	call := calling("Add", a, b)
	got, ok := grid.Add(a, b)
	if !isRight(append(slices.Clone(a), b...)) || len(a) != len(b) {
		checkNone(t, call, got, ok)
		return
	}
	checkTrue(t, call, ok)
	checkLines(t, call, got, sum(valuesOf(a), valuesOf(b)))
}

func TestMulAndAddOfPairs(t *testing.T) {
	for _, a := range all() {
		for _, b := range all() {
			checkMul(t, a, b)
			checkAdd(t, a, b)
		}
	}
}

// Of fractions that have nothing in common, so that products become long.
func TestLongProducts(t *testing.T) {
	fill := func(count, width, from int) matrix {
		m := make(matrix, count)
		for i := range m {
			for k := range width {
				x := noise(from + 31*i + k + 8)[from%5:]
				m[i] = append(m[i], over(number{Neg: (i+k)%2 == 0, Abs: x[:4]}, x[4:8]...))
			}
		}
		return m
	}
	a, b := fill(6, 6, 1), fill(6, 6, 2)
	checkMul(t, a, b)
	checkAdd(t, a, b)
	checkLeft(t, a[0], b)
	checkApply(t, a, b[0])
	checkMul(t, fill(2, 20, 3), fill(20, 2, 4))
}

// meeting are pairs of right matrices of which the first one is as wide as the second one has rows.
func meeting() [][2]matrix {
	var l [][2]matrix
	for _, a := range blocks() {
		for _, b := range blocks() {
			if grid.Width(a) == len(b) {
				l = append(l, [2]matrix{a, b})
			}
		}
	}
	return l
}

func mul(t *testing.T, a, b matrix) matrix {
	t.Helper()
	m, ok := grid.Mul(a, b)
	checkTrue(t, calling("Mul", a, b), ok)
	return m
}

func add(t *testing.T, a, b matrix) matrix {
	t.Helper()
	m, ok := grid.Add(a, b)
	checkTrue(t, calling("Add", a, b), ok)
	return m
}

func TestProductsOfThree(t *testing.T) {
	for i, pair := range meeting() {
		a, b := pair[0], pair[1]
		ab := mul(t, a, b)
		for k, c := range blocks() {
			if len(c) != grid.Width(b) || (i+k)%3 > 0 && len(a)*len(b)*len(c) > 18 {
				continue
			}
			x, y := mul(t, ab, c), mul(t, a, mul(t, b, c))
			if !sameLines(x, y) {
				t.Fatalf("%v, %v, %v: %v and %v", a, b, c, x, y)
			}
		}
	}
}

func TestProductsTurned(t *testing.T) {
	for _, pair := range meeting() {
		a, b := pair[0], pair[1]
		if grid.Width(b) == 0 || grid.Width(a) == 0 {
			// A matrix of no rows has lost how wide it was.
			continue
		}
		x, y := grid.Turn(mul(t, a, b)), mul(t, grid.Turn(b), grid.Turn(a))
		if !sameLines(x, y) {
			t.Fatalf("%v, %v: %v and %v", a, b, x, y)
		}
	}
}

func TestRowMatrixAndColumn(t *testing.T) {
	for _, m := range blocks() {
		for from := range 5 {
			r, c := wound(len(m), 6*from, from+1), wound(grid.Width(m), 5*from+2, 7)
			x, ok := grid.Left(r, m)
			y, found := grid.Apply(m, c)
			p, met := row.Dot(x, c)
			q, joined := row.Dot(r, y)
			if !ok || !found || !met || !joined || !same(p, q) {
				t.Fatalf("%v, %v, %v: %v and %v", r, m, c, p, q)
			}
			// As matrices of one row and of one column they have the same product.
			if len(m) > 0 && len(c) > 0 {
				column := grid.Turn(matrix{c})
				z := mul(t, mul(t, matrix{r}, m), column)
				if !sameLines(z, matrix{{p}}) || !sameLines(grid.Turn(mul(t, m, column)), matrix{y}) || !sameLines(mul(t, matrix{r}, m), matrix{x}) {
					t.Fatalf("%v, %v, %v: %v; want %v", r, m, c, z, p)
				}
			}
		}
	}
}

func TestIdentLeavesMatrices(t *testing.T) {
	for _, m := range blocks() {
		if len(m) > maxDim || grid.Width(m) > maxDim {
			continue
		}
		want := valuesOf(m)
		checkLines(t, calling("Ident times"), mul(t, grid.Ident(len(m)), m), want)
		checkLines(t, calling("times Ident"), mul(t, m, grid.Ident(grid.Width(m))), want)
		for i := range m {
			got, ok := grid.Left(row.Unit(len(m), i), m)
			checkTrue(t, calling("Left by Unit"), ok)
			checkLine(t, calling("Left by Unit"), got, want[i])
		}
		for i := range grid.Width(m) {
			got, ok := grid.Apply(m, row.Unit(grid.Width(m), i))
			checkTrue(t, calling("Apply to Unit"), ok)
			checkLine(t, calling("Apply to Unit"), got, turned(want)[i])
		}
	}
	for n := range maxDim + 1 {
		if !sameLines(grid.Turn(grid.Ident(n)), grid.Ident(n)) {
			t.Fatalf("Ident(%d) turned: %v", n, grid.Turn(grid.Ident(n)))
		}
	}
}

func TestProductsAreSharedOutOverSums(t *testing.T) {
	for count := range 4 {
		for width := range 4 {
			a, b := block(count, width, 1), block(count, width, 12)
			if x, y := add(t, a, b), add(t, b, a); !sameLines(x, y) {
				t.Fatalf("%v and %v: %v and %v", a, b, x, y)
			}
			if count == 0 {
				continue
			}
			for k := range 4 {
				if width > 0 {
					c := block(width, k, 4)
					if x, y := mul(t, add(t, a, b), c), add(t, mul(t, a, c), mul(t, b, c)); !sameLines(x, y) {
						t.Fatalf("%v and %v, times %v: %v and %v", a, b, c, x, y)
					}
				}
				c := block(k, count, 9)
				if k > 0 {
					if x, y := mul(t, c, add(t, a, b)), add(t, mul(t, c, a), mul(t, c, b)); !sameLines(x, y) {
						t.Fatalf("%v times %v and %v: %v and %v", c, a, b, x, y)
					}
				}
			}
		}
	}
}

// answers is what calls tell: what is written out, and the matrices and rows that are answered.
type answers struct {
	told  strings.Builder
	grids []matrix
	rows  []fracs
}

func (k *answers) matrix(m matrix) {
	k.grids = append(k.grids, m)
	fmt.Fprintln(&k.told, wordsOf(m))
}

func (k *answers) tryMatrix(m matrix, ok bool) {
	k.matrix(m)
	fmt.Fprintln(&k.told, ok)
}

func (k *answers) tryRow(r fracs, ok bool) {
	k.rows = append(k.rows, r)
	fmt.Fprintln(&k.told, wordsOf(matrix{r}), ok)
}

// lines are all rows that were answered, those of matrices, too.
func (k *answers) lines() []fracs {
	return slices.Concat(append(slices.Clone(k.grids), k.rows)...)
}

// lists are all lists of words that were answered.
func (k *answers) lists() []list {
	var l []list
	for _, r := range k.lines() {
		for _, c := range r {
			l = append(l, c.Num.Abs, c.Den)
		}
	}
	return l
}

// wordsOf writes a matrix to the word; nil lists are empty ones.
func wordsOf(m matrix) string {
	var s strings.Builder
	for _, r := range m {
		fmt.Fprint(&s, "(")
		for _, c := range r {
			fmt.Fprint(&s, c.Num.Neg, c.Num.Abs, c.Den, " ")
		}
		fmt.Fprint(&s, ")")
	}
	return s.String()
}

// A handful is what calls are made with.
type handful struct {
	r, c fracs
	a, b matrix
}

func handfuls() []handful {
	return []handful{
		{nil, nil, nil, nil},
		{fracs{}, fracs{{}}, matrix{}, matrix{{}}},
		{line("1 2"), nil, matrix{nil, {}}, matrix{{}, nil}},
		{line("1 1"), line("3 4"), lines("1 2, 3 4"), lines("5 6, 7 8")},
		{fracs{over(plus(2), 4)}, fracs{over(minus(7), 0)}, matrix{{over(plus(2), 4)}}, matrix{{over(plus(7))}}},
		{wound(3, 0, 1), wound(3, 5, 2), block(3, 3, 0), block(3, 3, 7)},
		{wound(2, 12, 3), wound(4, 1, 4), block(2, 4, 3), block(4, 2, 8)},
		{wound(5, 6, 1), wound(1, 15, 2), block(5, 1, 9), block(1, 5, 2)},
		{wound(2, 3, 1), wound(3, 15, 2), lines("1 2, 3"), lines("1, 2 3")},
		{wound(3, 3, 1), wound(2, 15, 2), lines("1 2, 3 4, 5 6 7"), block(3, 2, 4)},
		{row.Unit(6, 2), row.Zero(6), grid.Ident(6), block(6, 6, 1)},
	}
}

// calls are all calls that are told matrices, made with these.
func (h handful) calls() *answers {
	k := new(answers)
	for _, m := range []matrix{h.a, h.b} {
		fmt.Fprintln(&k.told, grid.Right(m), grid.Width(m), grid.Same(h.a, m), grid.Same(m, h.b))
		k.matrix(grid.Turn(m))
		for _, r := range []fracs{h.r, h.c} {
			k.tryRow(grid.Left(r, m))
			k.tryRow(grid.Apply(m, r))
		}
		for _, n := range []matrix{h.a, h.b} {
			k.tryMatrix(grid.Mul(m, n))
			k.tryMatrix(grid.Add(m, n))
		}
	}
	k.tryMatrix(grid.Mul(matrix{h.r}, h.a))
	k.tryMatrix(grid.Add(matrix{h.r}, matrix{h.r}))
	k.matrix(grid.Ident(len(h.a)))
	return k
}

// lendList hands out a with spare room behind it, whose words show who wrote there, or who read.
func lendList(a list, fill uint32) list { return behind(a, fill, fill, fill)[:len(a)] }

func lend(a fraction, fill uint32) fraction {
	return fraction{Num: number{Neg: a.Num.Neg, Abs: lendList(a.Num.Abs, fill)}, Den: lendList(a.Den, fill)}
}

func lendLine(a fracs, fill uint32) fracs {
	var l fracs
	for _, c := range append(slices.Clone(a), over(plus(fill), fill), over(minus(fill, 1), 1)) {
		l = append(l, lend(c, fill))
	}
	return l[:len(a)]
}

func lendLines(m matrix, fill uint32) matrix {
	var l matrix
	for _, r := range append(slices.Clone(m), fracs{over(plus(fill), 1)}, nil, wound(3, 0, 1)) {
		l = append(l, lendLine(r, fill))
	}
	return l[:len(m)]
}

func (h handful) lent(fill uint32) handful {
	return handful{lendLine(h.r, fill), lendLine(h.c, fill), lendLines(h.a, fill), lendLines(h.b, fill)}
}

func room(a list) list { return a[:cap(a)] }

// rooms writes matrices with all that lies in their spare room, in that of their rows, and in that of the fractions.
func rooms(l ...matrix) string {
	var s strings.Builder
	for _, m := range l {
		fmt.Fprint(&s, len(m), "[")
		for _, r := range m[:cap(m)] {
			fmt.Fprint(&s, len(r), ":")
			for _, c := range r[:cap(r)] {
				fmt.Fprint(&s, c.Num.Neg, len(c.Num.Abs), room(c.Num.Abs), len(c.Den), room(c.Den), " ")
			}
		}
		fmt.Fprint(&s, "]")
	}
	return s.String()
}

func (h handful) rooms() string { return rooms(matrix{h.r, h.c}, h.a, h.b) }

func (k *answers) rooms() string { return rooms(append(slices.Clone(k.grids), k.rows)...) }

// checkLists turns the words of one list after the other over, and asks whether those behind it stay; nothing stays of what is handed in.
func checkLists(t *testing.T, call string, lists []list) {
	t.Helper()
	var full []list
	for _, a := range lists {
		full = append(full, room(a))
	}
	for i, a := range full {
		rest := slices.Concat(full[i+1:]...)
		for k := range a {
			a[k] = ^a[k]
		}
		if !slices.Equal(slices.Concat(full[i+1:]...), rest) {
			t.Fatalf("%s: list %d shares memory with another one", call, i)
		}
	}
}

// spoil writes on all of a list, its spare room too, but not on what its elements hold.
func spoil[E any](a []E, with E) {
	for i := range a[:cap(a)] {
		a[:cap(a)][i] = with
	}
}

func TestWhatIsHandedInIsLeft(t *testing.T) {
	for i, h := range handfuls() {
		want := h.calls().told.String()
		for _, fill := range []uint32{0, 1, greatest} {
			x := h.lent(fill)
			before := x.rooms()
			// The same answers whatever lies behind the lengths, so that isn't read.
			if got := x.calls().told.String(); got != want {
				t.Fatalf("%d with %d behind: %s; want %s", i, fill, got, want)
			}
			if after := x.rooms(); after != before {
				t.Fatalf("%d with %d behind: made of it %s", i, fill, after)
			}
		}
	}
}

// No list of words of an answer is one of an argument, or of another answer, or stands in the answer twice.
func TestAnswersListsAreNewMemory(t *testing.T) {
	for i, h := range handfuls() {
		x := h.lent(5)
		first, second := x.calls(), x.calls()
		want := second.told.String()
		before, rest := x.rooms(), second.rooms()
		checkLists(t, fmt.Sprint(i), first.lists())
		if x.rooms() != before {
			t.Fatalf("%d: an answer shares memory with an argument", i)
		}
		if second.rooms() != rest {
			t.Fatalf("%d: an answer shares memory with that of the same call", i)
		}
		if got := x.calls().told.String(); got != want {
			t.Fatalf("%d: %s, then %s", i, want, got)
		}
	}
}

// So it is with the rows themselves, and with what lies behind them: no two of one answer share any.
func TestAnswersRowsAreNewMemory(t *testing.T) {
	for i, h := range handfuls() {
		x := h.lent(5)
		first, second := x.calls(), x.calls()
		before, rest := x.rooms(), second.rooms()
		all := first.lines()
		for k, r := range all {
			behind := rooms(all[k+1:])
			spoil(r, over(minus(4711), 815))
			if rooms(all[k+1:]) != behind {
				t.Fatalf("%d: row %d shares memory with another one", i, k)
			}
		}
		if x.rooms() != before {
			t.Fatalf("%d: a row is an argument's", i)
		}
		if second.rooms() != rest {
			t.Fatalf("%d: a row is one of the same call's", i)
		}
	}
}

// And so with the lists of rows.
func TestAnswersMatricesAreNewMemory(t *testing.T) {
	for i, h := range handfuls() {
		x := h.lent(5)
		first, second := x.calls(), x.calls()
		before, rest := x.rooms(), second.rooms()
		for k, m := range first.grids {
			behind := rooms(first.grids[k+1:]...)
			spoil(m, fracs{over(minus(4711), 815)})
			if rooms(first.grids[k+1:]...) != behind {
				t.Fatalf("%d: matrix %d shares memory with another one", i, k)
			}
		}
		if x.rooms() != before {
			t.Fatalf("%d: a matrix is an argument's", i)
		}
		if second.rooms() != rest {
			t.Fatalf("%d: a matrix is one of the same call's", i)
		}
	}
}

// Ident is asked for each number twice, so that two answers to one are held against each other, too.
func TestIdentsAreNewMemory(t *testing.T) {
	k := new(answers)
	for range 2 {
		for n := range maxDim + 3 {
			k.matrix(grid.Ident(n))
		}
	}
	want := k.told.String()
	checkLists(t, "Ident", k.lists())
	all := k.lines()
	for i, r := range all {
		behind := rooms(all[i+1:])
		spoil(r, over(minus(4711), 815))
		if rooms(all[i+1:]) != behind {
			t.Fatalf("row %d shares memory with another one", i)
		}
	}
	again := new(answers)
	for range 2 {
		for n := range maxDim + 3 {
			again.matrix(grid.Ident(n))
		}
	}
	if got := again.told.String(); got != want {
		t.Fatalf("%s, then %s", want, got)
	}
}

// One matrix, and one row, may stand at all places.
func TestOneAtAllPlaces(t *testing.T) {
	for n := range 6 {
		r := lendLine(wound(n, 3, 5), 5)
		m := slices.Repeat(matrix{r}, n)
		before := rooms(m, matrix{r})
		checkLeft(t, r, m)
		checkApply(t, m, r)
		checkMul(t, m, m)
		checkAdd(t, m, m)
		checkLines(t, calling("Turn"), grid.Turn(m), turned(valuesOf(m)))
		if !grid.Same(m, m) || rooms(m, matrix{r}) != before {
			t.Fatalf("%v: made of it %s", m, rooms(m))
		}
		h := handful{r, r, m, m}
		checkLists(t, fmt.Sprint(n), h.calls().lists())
		if rooms(m, matrix{r}) != before {
			t.Fatalf("%v: an answer shares memory with it", m)
		}
	}
}

// What is answered is right where what is handed in is not.
func TestAnswersAreRight(t *testing.T) {
	for i, h := range handfuls() {
		k := h.calls()
		for _, m := range k.grids {
			if !isRight(m) {
				t.Fatalf("%d: %v isn't right", i, m)
			}
		}
		for _, r := range k.lines() {
			for _, c := range r {
				if !same(c, of(value(c))) || !frac.Right(c) {
					t.Fatalf("%d: %v isn't right", i, c)
				}
			}
		}
	}
}

// Noughts at the end of lists, however many, cost no more than to go over them.
func TestNoughtsAtTheEndAreCheap(t *testing.T) {
	end := repeat(0, 1000000)
	short := matrix{{over(minus(0, 6), 4), over(plus(6), 0, 4)}, {over(minus(7)), {}}}
	var long matrix
	for _, r := range short {
		long = append(long, nil)
		for _, a := range r {
			long[len(long)-1] = append(long[len(long)-1], over(number{Neg: a.Num.Neg, Abs: behind(a.Num.Abs, end...)}, behind(a.Den, end...)...))
		}
	}
	got := handful{long[0], long[1], long, long}.calls().told.String()
	if want := (handful{short[0], short[1], short, short}.calls().told.String()); got != want {
		t.Fatalf("%s; want %s", got, want)
	}
}

func TestExamples(t *testing.T) {
	m := lines("1 2 3, 4 5 6")
	if got, ok := grid.Mul(grid.Ident(2), m); !ok || !sameLines(got, m) {
		t.Error(got, ok)
	}
	if got := grid.Turn(lines("1 2 3")); !sameLines(got, matrix{line("1"), line("2"), line("3")}) {
		t.Error(got)
	}
	if got, ok := grid.Left(line("1 1"), lines("1 2, 3 4")); !ok || !sameLine(got, line("4 6")) {
		t.Error(got, ok)
	}
}
