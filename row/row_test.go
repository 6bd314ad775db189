package row_test

import (
	"fmt"
	"math"
	"math/big"
	"slices"
	"strings"
	"testing"

	"retrospect/api"
	"retrospect/frac"
	"retrospect/row"
	"retrospect/whole"
)

const (
	greatest = 0xffffffff
	// As the document names them.
	maxNodes  = 300
	maxDigits = 60
)

type (
	list     = []uint32
	number   = whole.Whole
	fraction = frac.Frac
	fracs    = []frac.Frac
	rats     = []*big.Rat
)

func plus(w ...uint32) number { return number{Abs: w} }

func minus(w ...uint32) number { return number{Neg: true, Abs: w} }

// over writes a fraction as it stands, right or not.
func over(num number, den ...uint32) fraction { return fraction{Num: num, Den: den} }

func repeat(w uint32, n int) list { return slices.Repeat(list{w}, n) }

func behind(a list, w ...uint32) list { return append(slices.Clone(a), w...) }

func natural(a list) *big.Int {
	n := new(big.Int)
	for i := len(a) - 1; i >= 0; i-- {
		n.Or(n.Lsh(n, 32), big.NewInt(int64(a[i])))
	}
	return n
}

func value(a fraction) *big.Rat {
	den := natural(a.Den)
	if den.Sign() == 0 {
		return new(big.Rat)
	}
	num := natural(a.Num.Abs)
	if a.Num.Neg {
		num.Neg(num)
	}
	return new(big.Rat).SetFrac(num, den)
}

func values(a fracs) rats {
	var l rats
	for _, c := range a {
		l = append(l, value(c))
	}
	return l
}

func words(n *big.Int) list {
	var a list
	for n = new(big.Int).Abs(n); n.Sign() > 0; n.Rsh(n, 32) {
		a = append(a, uint32(n.Uint64()))
	}
	return a
}

// of is the right fraction of a value, as math/big cancels it.
func of(r *big.Rat) fraction {
	return fraction{Num: number{Neg: r.Sign() < 0, Abs: words(r.Num())}, Den: words(r.Denom())}
}

// fr is told by a whole number, or by two with a / between.
func fr(s string) fraction {
	r, ok := new(big.Rat).SetString(s)
	if !ok {
		panic(s + " is no fraction")
	}
	return of(r)
}

// line is a row of right fractions, told with spaces between.
func line(s string) fracs {
	var a fracs
	for _, c := range strings.Fields(s) {
		a = append(a, fr(c))
	}
	return a
}

// same tells whether two are the same to the word; nil and empty lists are one.
func same(a, b fraction) bool {
	return a.Num.Neg == b.Num.Neg && slices.Equal(a.Num.Abs, b.Num.Abs) && slices.Equal(a.Den, b.Den)
}

func sameLine(a, b fracs) bool { return slices.EqualFunc(a, b, same) }

// nought is 0 as a right fraction.
func nought() fraction { return over(plus(), 1) }

// What fails on one of the lists without a pattern must fail again, so they are always the same ones.
func noise(n int) list {
	x := uint32(2463534242) + uint32(n)
	a := make(list, n)
	for i := range a {
		x ^= x << 13
		x ^= x >> 17
		x ^= x << 5
		a[i] = x
	}
	return a
}

// digits are as many without a pattern; the first one is no nought.
func digits(n int) string {
	return strings.Repeat("31415926535897932384626433832795", n/32+1)[:n]
}

// several are fractions right, and not right in all ways, some of one value in several ways.
func several() fracs {
	return fracs{
		over(plus(1), 2), over(minus(3), 4), over(plus(5), 1), nought(), over(minus(1), 1), over(plus(2), 4), over(minus(6, 0), 4, 0), over(plus(7)), {}, over(minus(7), 0), over(minus(0), 6, 0), {Num: minus(1, 2, 3), Den: repeat(0, 100)},
		over(plus(4), 6), over(plus(2), 3), over(minus(14), 0, 7), over(plus(1), greatest), over(minus(0, 1), 6), over(plus(greatest, greatest), greatest), over(plus(1, 1), 1, 0), over(minus(5), 12), over(plus(7, 0), 18, 0, 0),
		over(plus(noise(3)...), noise(2)...), over(minus(noise(2)...), behind(noise(3), 0)...), over(minus(12), 18), over(plus(1, 0), 1), over(minus(), 3), over(plus(0x80000000), 0, 0, 1), over(minus(greatest), 0xfffffffe), over(plus(noise(5)...), 12), over(minus(18), noise(4)...),
	}
}

// wound is a row of several's fractions, n of them from one place on, round and round.
func wound(n, from, by int) fracs {
	all := several()
	var a fracs
	for i := range n {
		a = append(a, all[(from+i*by)%len(all)])
	}
	return a
}

// bundle is so many rows of n fractions, no two alike; where it's long, they are short.
func bundle(count, n int) []fracs {
	var l []fracs
	for i := range count {
		a := wound(n, 3*i+n, 2*i+1)
		if count > 40 {
			for k := range a {
				a[k] = over(number{Neg: i%3 == 0, Abs: list{uint32(7*i + k), 0}}, uint32(i%11+1))
			}
		}
		l = append(l, a)
	}
	return l
}

// lines are rows of lengths from 0 to 7 that can be held against one another.
func lines() []fracs {
	l := []fracs{nil, {}, {{}}, {nought()}, {over(minus(7), 0)}, {over(plus(7))}, line("1"), line("-1"), line("1/2"), {over(plus(2), 4)}, line("1 2"), line("2 1"), {over(plus(2), 2), over(plus(4, 0), 2)}, line("3 4"), line("-1/2 1/3"), line("0 0"), {{}, over(minus(0), 6)}, line("1 2 3"), line("1 2 3 0")}
	for n := 1; n <= 7; n++ {
		for from := range 5 {
			l = append(l, wound(n, 6*from+n, from+1))
		}
	}
	return l
}

// alike are all pairs of lines of one length.
func alike() [][2]fracs {
	var l [][2]fracs
	all := lines()
	for _, a := range all {
		for _, b := range all {
			if len(a) == len(b) {
				l = append(l, [2]fracs{a, b})
			}
		}
	}
	return l
}

// unlike are all pairs of lines that haven't one length.
func unlike() [][2]fracs {
	var l [][2]fracs
	all := lines()
	for _, a := range all {
		for _, b := range all {
			if len(a) != len(b) {
				l = append(l, [2]fracs{a, b})
			}
		}
	}
	return l
}

func check(t *testing.T, call string, got fraction, want *big.Rat) {
	t.Helper()
	if !same(got, of(want)) {
		t.Fatalf("%s: %v; want %v", call, got, of(want))
	}
}

func checkLine(t *testing.T, call string, got fracs, want rats) {
	t.Helper()
	if len(got) != len(want) {
		t.Fatalf("%s: %d fractions; want %d", call, len(got), len(want))
	}
	for i, c := range got {
		if !same(c, of(want[i])) {
			t.Fatalf("%s: at %d %v; want %v", call, i, c, of(want[i]))
		}
	}
}

func checkSome(t *testing.T, call string, got fracs, ok bool, want rats) {
	t.Helper()
	if !ok {
		t.Fatalf("%s: false", call)
	}
	checkLine(t, call, got, want)
}

// checkNone asks for what stands beside a false, too.
func checkNone(t *testing.T, call string, got fracs, ok bool) {
	t.Helper()
	if ok || len(got) > 0 {
		t.Fatalf("%s: %v, %v; want none, false", call, got, ok)
	}
}

func sum(l ...*big.Rat) *big.Rat {
	s := new(big.Rat)
	for _, x := range l {
		s.Add(s, x)
	}
	return s
}

func product(a, b *big.Rat) *big.Rat { return new(big.Rat).Mul(a, b) }

// sums adds up rows of n fractions, place by place.
func sums(n int, l ...fracs) rats {
	var s rats
	for i := range n {
		var places rats
		for _, a := range l {
			places = append(places, value(a[i]))
		}
		s = append(s, sum(places...))
	}
	return s
}

func scaled(c *big.Rat, a rats) rats {
	var l rats
	for _, x := range a {
		l = append(l, product(c, x))
	}
	return l
}

func dot(a, b fracs) *big.Rat {
	s := new(big.Rat)
	for i := range a {
		s.Add(s, product(value(a[i]), value(b[i])))
	}
	return s
}

func mixed(c fracs, l []fracs, n int) rats {
	var m rats
	for k := range n {
		s := new(big.Rat)
		for i := range l {
			s.Add(s, product(value(c[i]), value(l[i][k])))
		}
		m = append(m, s)
	}
	return m
}

// ints are lengths and places at which something ends, and their neighbours.
func ints() []int {
	l := []int{math.MinInt, math.MinInt + 1, -1 << 32, math.MaxInt - 1, math.MaxInt, 1 << 32, 1<<32 + 1, 2, 6, 7, 256}
	for gap := -2; gap <= 2; gap++ {
		l = append(l, gap, maxNodes+gap, -maxNodes+gap)
	}
	return l
}

func cut(n int) int { return min(max(n, 0), maxNodes) }

func TestZero(t *testing.T) {
	for _, n := range ints() {
		checkLine(t, fmt.Sprintf("Zero(%d)", n), row.Zero(n), sums(cut(n)))
	}
	for n := range maxNodes + 10 {
		got := row.Zero(n)
		if len(got) != cut(n) {
			t.Fatalf("Zero(%d): %d fractions", n, len(got))
		}
		for i, c := range got {
			if !same(c, nought()) {
				t.Fatalf("Zero(%d): at %d %v", n, i, c)
			}
		}
	}
}

func checkUnit(t *testing.T, n, i int) {
	t.Helper()
	want := sums(cut(n))
	if i >= 0 && i < cut(n) {
		want[i] = big.NewRat(1, 1)
	}
	checkLine(t, fmt.Sprintf("Unit(%d, %d)", n, i), row.Unit(n, i), want)
}

func TestUnit(t *testing.T) {
	for _, n := range ints() {
		for _, i := range append(ints(), n-1, n, n+1, -n, n/2) {
			checkUnit(t, n, i)
		}
	}
	for n := range 8 {
		for i := -9; i <= 9; i++ {
			checkUnit(t, n, i)
		}
	}
	for i := range maxNodes + 1 {
		checkUnit(t, maxNodes, i)
	}
}

func TestUnitTable(t *testing.T) {
	for _, c := range []struct {
		n, i int
		want fracs
	}{
		{0, 0, nil},
		{1, 0, line("1")},
		{1, 1, line("0")},
		{1, -1, line("0")},
		{3, 0, line("1 0 0")},
		{3, 1, line("0 1 0")},
		{3, 2, line("0 0 1")},
		{3, 3, line("0 0 0")},
		{3, -1, line("0 0 0")},
		{-3, 0, nil},
		{-3, -3, nil},
		{-1, -1, nil},
		{math.MinInt, math.MinInt, nil},
	} {
		if got := row.Unit(c.n, c.i); !sameLine(got, c.want) {
			t.Errorf("Unit(%d, %d): %v; want %v", c.n, c.i, got, c.want)
		}
	}
}

func TestSameTable(t *testing.T) {
	for i, c := range []struct {
		a, b fracs
		want bool
	}{
		{nil, nil, true},
		{nil, fracs{}, true},
		{fracs{}, nil, true},
		{nil, line("0"), false},
		{line("0"), fracs{}, false},
		{line("1"), line("1"), true},
		{line("1"), line("-1"), false},
		{line("1"), line("1 0"), false},
		{line("1 0"), line("1"), false},
		{line("1 2"), line("1 2"), true},
		{line("1 2"), line("2 1"), false},
		{line("1 2"), line("1 3"), false},
		{line("1 2"), line("3 2"), false},
		{line("1 2 3"), line("1 2"), false},
		{line("1 2"), line("1 2 3"), false},
		{line("1 1"), line("1"), false},
		{line("1/2"), fracs{over(plus(2), 4)}, true},
		{fracs{over(minus(6, 0), 4, 0)}, line("-3/2"), true},
		{fracs{over(plus(2), 4), over(plus(3, 0), 3)}, fracs{over(plus(3), 6, 0), over(plus(1), 1)}, true},
		{fracs{{}}, line("0"), true},
		{fracs{{}, {}}, fracs{over(minus(7), 0), over(minus(0), 5)}, true},
		{fracs{over(plus(7)), over(plus(1), 1)}, line("0 1"), true},
		{fracs{over(plus(7))}, line("7"), false},
		{fracs{{}}, nil, false},
		{fracs{over(plus(0, 1), 0, 1)}, line("1"), true},
		{fracs{over(plus(0, 1), 1)}, line("1"), false},
	} {
		if got := row.Same(c.a, c.b); got != c.want {
			t.Errorf("%d: Same(%v, %v): %v", i, c.a, c.b, got)
		}
	}
}

func TestSameIsThatOfTheValues(t *testing.T) {
	equal := func(x, y *big.Rat) bool { return x.Cmp(y) == 0 }
	all := lines()
	for _, a := range all {
		for _, b := range all {
			if got, want := row.Same(a, b), slices.EqualFunc(values(a), values(b), equal); got != want {
				t.Fatalf("Same(%v, %v): %v", a, b, got)
			}
		}
	}
}

// Told in other words at all places it's the same; with another value at one place it isn't, nor without the last one.
func TestSameAtEachPlace(t *testing.T) {
	for n := 1; n <= 9; n++ {
		a := wound(n, 12, 5)
		b := slices.Clone(a)
		for i, c := range values(a) {
			b[i] = of(c)
			b[i].Num.Abs = behind(b[i].Num.Abs, 0)
			b[i].Den = behind(b[i].Den, 0, 0)
		}
		if !row.Same(a, b) || !row.Same(b, a) || row.Same(a, b[:n-1]) || row.Same(b[1:], a) {
			t.Fatalf("%v, %v: not the same", a, b)
		}
		for i := range n {
			c := slices.Clone(b)
			c[i] = frac.Add(c[i], over(plus(1), 0, 0, 1))
			if row.Same(a, c) || row.Same(c, a) {
				t.Fatalf("%v, %v: the same", a, c)
			}
		}
	}
}

func TestAddTable(t *testing.T) {
	for i, c := range []struct {
		l    []fracs
		want fracs
		ok   bool
	}{
		{nil, nil, true},
		{[]fracs{}, nil, true},
		{[]fracs{nil}, nil, true},
		{[]fracs{{}}, nil, true},
		{[]fracs{nil, {}}, nil, true},
		{[]fracs{{}, nil, {}}, nil, true},
		{[]fracs{line("1 2"), line("3 4")}, line("4 6"), true},
		{[]fracs{line("1/2 -1")}, line("1/2 -1"), true},
		{[]fracs{{over(minus(6, 0), 4), over(plus(7))}}, line("-3/2 0"), true},
		{[]fracs{line("1/2"), line("1/3")}, line("5/6"), true},
		{[]fracs{line("1/2 1/3"), line("-1/2 1/6")}, line("0 1/2"), true},
		{[]fracs{line("1 2"), line("3 4"), line("5 6")}, line("9 12"), true},
		{[]fracs{line("1 2 3"), line("1/2 1/3 1/4"), line("-1 -2 -3"), line("0 0 1")}, line("1/2 1/3 5/4"), true},
		{[]fracs{line("1"), line("2"), line("3"), line("4"), line("5"), line("6"), line("7")}, line("28"), true},
		{[]fracs{{{}, over(minus(7), 0)}, {over(plus(2), 4), over(plus(7))}}, line("1/2 0"), true},
		{[]fracs{{over(plus(2), 4)}, {over(plus(3), 6)}, {over(minus(4, 0), 4, 0)}}, line("0"), true},
		{[]fracs{line("4294967295"), line("1")}, line("4294967296"), true},
		{[]fracs{line("1"), nil}, nil, false},
		{[]fracs{nil, line("1")}, nil, false},
		{[]fracs{{}, {{}}}, nil, false},
		{[]fracs{line("1 2"), line("3")}, nil, false},
		{[]fracs{line("1"), line("2 3")}, nil, false},
		{[]fracs{line("1 2"), line("3 4"), line("5 6 7")}, nil, false},
		{[]fracs{line("1 2"), line("3 4 5"), line("6 7")}, nil, false},
		{[]fracs{line("1 2 3"), line("4 5"), line("6 7")}, nil, false},
		{[]fracs{line("1 2"), line("3 4"), line("5")}, nil, false},
		{[]fracs{line("1 2"), line("3 4"), nil}, nil, false},
		{[]fracs{line("1"), line("2"), line("3 4"), line("5 6")}, nil, false},
		{[]fracs{nil, nil, nil, line("1")}, nil, false},
	} {
		if got, ok := row.Add(c.l...); !sameLine(got, c.want) || ok != c.ok {
			t.Errorf("%d: Add(%v): %v, %v; want %v, %v", i, c.l, got, ok, c.want, c.ok)
		}
	}
	if got, ok := row.Add(); !ok || len(got) > 0 {
		t.Errorf("Add(): %v, %v", got, ok)
	}
}

func TestAddIsTheSumAtEachPlace(t *testing.T) {
	for count := range 20 {
		for n := range 6 {
			l := bundle(count, n)
			if count == 0 {
				n = 0
			}
			got, ok := row.Add(l...)
			checkSome(t, fmt.Sprintf("Add of %d rows of %d", count, n), got, ok, sums(n, l...))
		}
	}
	for _, count := range []int{100, 1000} {
		l := bundle(count, 3)
		got, ok := row.Add(l...)
		checkSome(t, fmt.Sprintf("Add of %d rows", count), got, ok, sums(3, l...))
	}
	for _, n := range []int{maxNodes, maxNodes + 1, 2000} {
		a, b := wound(n, 0, 1), wound(n, 5, 7)
		got, ok := row.Add(a, b)
		checkSome(t, fmt.Sprintf("Add of two rows of %d", n), got, ok, sums(n, a, b))
	}
}

// The unlike one stands at each place once: longer, shorter, and empty.
func TestAddOfUnlikeLengths(t *testing.T) {
	for count := 2; count <= 9; count++ {
		for n := range 4 {
			for place := range count {
				for _, m := range []int{0, 1, n - 1, n + 1, 2 * n, maxNodes} {
					if m < 0 || m == n {
						continue
					}
					l := bundle(count, n)
					l[place] = wound(m, 2, 3)
					got, ok := row.Add(l...)
					checkNone(t, fmt.Sprintf("Add of %d rows of %d, that at %d of %d", count, n, place, m), got, ok)
				}
			}
		}
	}
}

func TestAddAndSubOfPairs(t *testing.T) {
	for _, pair := range alike() {
		a, b := pair[0], pair[1]
		call := fmt.Sprintf("(%v, %v)", a, b)
		got, ok := row.Add(a, b)
		checkSome(t, "Add"+call, got, ok, sums(len(a), a, b))
		got, ok = row.Add(a, b, a)
		checkSome(t, "Add once more"+call, got, ok, sums(len(a), a, b, a))
		got, ok = row.Sub(a, b)
		var want rats
		for i := range a {
			want = append(want, new(big.Rat).Sub(value(a[i]), value(b[i])))
		}
		checkSome(t, "Sub"+call, got, ok, want)
	}
	for _, pair := range unlike() {
		call := fmt.Sprintf("(%v, %v)", pair[0], pair[1])
		got, ok := row.Add(pair[0], pair[1])
		checkNone(t, "Add"+call, got, ok)
		got, ok = row.Sub(pair[0], pair[1])
		checkNone(t, "Sub"+call, got, ok)
	}
}

func TestAddOfOneRow(t *testing.T) {
	for _, a := range lines() {
		got, ok := row.Add(a)
		checkSome(t, fmt.Sprintf("Add(%v)", a), got, ok, values(a))
	}
}

func TestSubTable(t *testing.T) {
	for i, c := range []struct {
		a, b, want fracs
		ok         bool
	}{
		{nil, nil, nil, true},
		{nil, fracs{}, nil, true},
		{line("1 2"), line("3 5"), line("-2 -3"), true},
		{line("3 5"), line("1 2"), line("2 3"), true},
		{line("1/2"), line("1/3"), line("1/6"), true},
		{line("1/2 -1/2"), line("1/2 -1/2"), line("0 0"), true},
		{line("0 0"), line("1 -1"), line("-1 1"), true},
		{fracs{over(plus(6), 4), {}}, fracs{over(plus(1, 0), 2), over(minus(2), 4)}, line("1 1/2"), true},
		{fracs{over(minus(7), 0)}, fracs{over(plus(7))}, line("0"), true},
		{line("1"), nil, nil, false},
		{nil, line("1"), nil, false},
		{fracs{}, fracs{{}}, nil, false},
		{line("1 2"), line("1"), nil, false},
		{line("1"), line("1 2"), nil, false},
		{line("1 2 3"), line("1 2"), nil, false},
	} {
		if got, ok := row.Sub(c.a, c.b); !sameLine(got, c.want) || ok != c.ok {
			t.Errorf("%d: Sub(%v, %v): %v, %v; want %v, %v", i, c.a, c.b, got, ok, c.want, c.ok)
		}
	}
}

func TestScaleTable(t *testing.T) {
	for i, c := range []struct {
		c       fraction
		a, want fracs
	}{
		{fr("2"), nil, nil},
		{fr("0"), fracs{}, nil},
		{fraction{}, nil, nil},
		{fr("2"), line("1 2 3"), line("2 4 6")},
		{fr("1"), line("1/2 -3"), line("1/2 -3")},
		{fr("0"), line("1/2 -3 0"), line("0 0 0")},
		{fraction{}, line("1/2 -3"), line("0 0")},
		{over(minus(7), 0), line("1/2 -3"), line("0 0")},
		{over(plus(7)), line("5"), line("0")},
		{fr("-1"), line("1/2 -3 0"), line("-1/2 3 0")},
		{fr("-2/3"), line("3/2 -3/4 6"), line("-1 1/2 -4")},
		{fr("1/2"), line("2 4/3"), line("1 2/3")},
		{over(minus(4, 0), 6), fracs{over(plus(3), 2), over(minus(6), 4, 0), over(plus(7))}, line("-1 1 0")},
		{fr("4294967296"), line("1/4294967296 4294967296"), line("1 18446744073709551616")},
	} {
		if got := row.Scale(c.c, c.a); !sameLine(got, c.want) {
			t.Errorf("%d: Scale(%v, %v): %v; want %v", i, c.c, c.a, got, c.want)
		}
	}
}

func TestScaleIsTheProductAtEachPlace(t *testing.T) {
	for _, c := range several() {
		for _, a := range lines() {
			checkLine(t, fmt.Sprintf("Scale(%v, %v)", c, a), row.Scale(c, a), scaled(value(c), values(a)))
		}
	}
	long := wound(1000, 1, 11)
	checkLine(t, "Scale of a long row", row.Scale(fr("-6/5"), long), scaled(big.NewRat(-6, 5), values(long)))
}

func TestDotTable(t *testing.T) {
	for i, c := range []struct {
		a, b fracs
		want fraction
		ok   bool
	}{
		{nil, nil, nought(), true},
		{nil, fracs{}, nought(), true},
		{line("1 2"), line("3 4"), fr("11"), true},
		{line("5"), line("-7"), fr("-35"), true},
		{line("1/2"), line("2/3"), fr("1/3"), true},
		{line("1 -1"), line("7 7"), fr("0"), true},
		{line("0 0 0"), line("1 2 3"), fr("0"), true},
		{line("1 0 0"), line("4 5 6"), fr("4"), true},
		{line("0 0 1"), line("4 5 6"), fr("6"), true},
		{line("1/2 1/3 1/4"), line("1/2 1/3 1/4"), fr("61/144"), true},
		{line("1 2 3 4 5"), line("5 4 3 2 1"), fr("35"), true},
		{fracs{over(plus(2), 4)}, fracs{over(plus(4, 0), 6)}, fr("1/3"), true},
		{fracs{over(plus(7)), over(plus(2), 4)}, line("5 6"), fr("3"), true},
		{fracs{{}}, fracs{{}}, nought(), true},
		{fracs{over(minus(7), 0)}, line("-1"), nought(), true},
		{line("1"), nil, nought(), false},
		{nil, line("1"), nought(), false},
		{line("1 2"), line("3"), nought(), false},
		{line("3"), line("1 2"), nought(), false},
		{line("1 2 3"), line("1 2 3 0"), nought(), false},
		{line("1 2 3 0"), line("1 2 3"), nought(), false},
	} {
		if got, ok := row.Dot(c.a, c.b); !same(got, c.want) || ok != c.ok {
			t.Errorf("%d: Dot(%v, %v): %v, %v; want %v, %v", i, c.a, c.b, got, ok, c.want, c.ok)
		}
	}
}

func checkDot(t *testing.T, a, b fracs) {
	t.Helper()
	got, ok := row.Dot(a, b)
	call := fmt.Sprintf("Dot(%v, %v)", a, b)
	if !ok {
		t.Fatalf("%s: false", call)
	}
	check(t, call, got, dot(a, b))
}

func TestDotIsTheSumOfTheProducts(t *testing.T) {
	for _, pair := range alike() {
		checkDot(t, pair[0], pair[1])
	}
	for n := range 40 {
		checkDot(t, wound(n, 0, 1), wound(n, 3, 7))
	}
	l := bundle(1000, 2)
	var a, b fracs
	for _, c := range l {
		a, b = append(a, c[0]), append(b, c[1])
	}
	checkDot(t, a, b)
	for _, pair := range unlike() {
		if got, ok := row.Dot(pair[0], pair[1]); ok || !same(got, nought()) {
			t.Fatalf("Dot(%v, %v): %v, %v; want 0, false", pair[0], pair[1], got, ok)
		}
	}
}

// Of fractions that have nothing in common, so that sums become long.
func TestLongSums(t *testing.T) {
	const n = 150
	var a, b fracs
	for i := range n {
		x := noise(i + 9)[i : i+9]
		a, b = append(a, over(plus(x[:4]...), x[4:]...)), append(b, over(minus(uint32(i+1)), 3))
	}
	checkDot(t, a, b)
	var l []fracs
	for _, c := range a {
		l = append(l, fracs{c})
	}
	got, ok := row.Add(l...)
	checkSome(t, "Add", got, ok, sums(1, l...))
	got, ok = row.Mix(b, l, 1)
	checkSome(t, "Mix", got, ok, mixed(b, l, 1))
}

func TestMixTable(t *testing.T) {
	for i, c := range []struct {
		c    fracs
		l    []fracs
		n    int
		want fracs
		ok   bool
	}{
		{nil, nil, 0, nil, true},
		{fracs{}, []fracs{}, 0, nil, true},
		{nil, nil, 1, line("0"), true},
		{nil, nil, 3, line("0 0 0"), true},
		{fracs{}, []fracs{}, 3, line("0 0 0"), true},
		{line("2"), []fracs{line("1 2 3")}, 3, line("2 4 6"), true},
		{line("1"), []fracs{{over(minus(6, 0), 4)}}, 1, line("-3/2"), true},
		{line("2 3"), []fracs{line("1 0"), line("0 1")}, 2, line("2 3"), true},
		{line("1/2 -1/3"), []fracs{line("1 2"), line("3 6")}, 2, line("-1/2 -1"), true},
		{line("1 1 1"), []fracs{line("1"), line("2"), line("3")}, 1, line("6"), true},
		{line("1 10 100"), []fracs{line("1 4"), line("2 5"), line("3 6")}, 2, line("321 654"), true},
		{line("0 0"), []fracs{line("1 4"), line("2 5")}, 2, line("0 0"), true},
		{fracs{{}, over(plus(2), 4)}, []fracs{line("5"), line("6")}, 1, line("3"), true},
		{fracs{over(minus(7), 0), over(minus(7))}, []fracs{line("5"), line("6")}, 1, line("0"), true},
		{line("1 2"), []fracs{nil, {}}, 0, nil, true},
		{line("1"), nil, 2, nil, false},
		{nil, []fracs{line("1 2")}, 2, nil, false},
		{line("1"), nil, 0, nil, false},
		{nil, []fracs{nil}, 0, nil, false},
		{line("1 2"), []fracs{line("1 2")}, 2, nil, false},
		{line("1"), []fracs{line("1 2"), line("3 4")}, 2, nil, false},
		{line("1 2 0"), []fracs{line("1 2"), line("3 4")}, 2, nil, false},
		{line("1"), []fracs{line("1 2")}, 1, nil, false},
		{line("1"), []fracs{line("1 2")}, 3, nil, false},
		{line("1"), []fracs{line("1 2")}, 0, nil, false},
		{line("1"), []fracs{nil}, 1, nil, false},
		{line("1 2"), []fracs{line("1 2"), line("3")}, 2, nil, false},
		{line("1 2"), []fracs{line("1"), line("2 3")}, 2, nil, false},
		{line("1 2"), []fracs{line("1"), line("2 3")}, 1, nil, false},
		{line("0"), []fracs{line("1 2 3")}, 2, nil, false},
		{nil, nil, -1, nil, false},
		{line("1"), []fracs{nil}, -1, nil, false},
		{line("1"), []fracs{line("1")}, -1, nil, false},
		{nil, nil, maxNodes + 1, nil, false},
		{nil, nil, math.MaxInt, nil, false},
		{nil, nil, math.MinInt, nil, false},
	} {
		if got, ok := row.Mix(c.c, c.l, c.n); !sameLine(got, c.want) || ok != c.ok {
			t.Errorf("%d: Mix(%v, %v, %d): %v, %v; want %v, %v", i, c.c, c.l, c.n, got, ok, c.want, c.ok)
		}
	}
}

func checkMix(t *testing.T, c fracs, l []fracs, n int) {
	t.Helper()
	got, ok := row.Mix(c, l, n)
	checkSome(t, fmt.Sprintf("Mix of %d rows of %d", len(l), n), got, ok, mixed(c, l, n))
}

func TestMixIsTheSumOfTheRowsTakenTimes(t *testing.T) {
	for count := range 12 {
		for n := range 7 {
			for from := range 4 {
				checkMix(t, wound(count, from, 3*from+1), bundle(count, n), n)
			}
		}
		for _, n := range []int{maxNodes - 1, maxNodes} {
			checkMix(t, wound(count, 5, 7), bundle(count, n), n)
		}
	}
	checkMix(t, wound(500, 0, 1), bundle(500, 2), 2)
}

func TestMixOfNoRows(t *testing.T) {
	for _, n := range ints() {
		got, ok := row.Mix(nil, nil, n)
		call := fmt.Sprintf("Mix(none, none, %d)", n)
		if n < 0 || n > maxNodes {
			checkNone(t, call, got, ok)
			continue
		}
		checkSome(t, call, got, ok, sums(n))
	}
}

func TestMixRefused(t *testing.T) {
	for count := range 7 {
		for n := range 5 {
			l := bundle(count, n)
			for more := range 9 {
				if more != count {
					got, ok := row.Mix(wound(more, 2, 3), l, n)
					checkNone(t, fmt.Sprintf("Mix of %d fractions, %d rows", more, count), got, ok)
				}
			}
			c := wound(count, 2, 3)
			for _, m := range ints() {
				if count > 0 && m != n || m < 0 || m > maxNodes {
					got, ok := row.Mix(c, l, m)
					checkNone(t, fmt.Sprintf("Mix of %d rows of %d, as one of %d", count, n, m), got, ok)
				}
			}
			for place := range count {
				for _, m := range []int{0, n - 1, n + 1, 2*n + 1, maxNodes} {
					if m < 0 || m == n {
						continue
					}
					other := slices.Clone(l)
					other[place] = wound(m, 2, 3)
					got, ok := row.Mix(c, other, n)
					checkNone(t, fmt.Sprintf("Mix of %d rows of %d, that at %d of %d", count, n, place, m), got, ok)
				}
			}
		}
	}
}

// Rows of one beyond api.MaxNodes fit n, but n may not be.
func TestMixOfRowsThatAreTooLong(t *testing.T) {
	for _, n := range []int{maxNodes + 1, maxNodes + 2, 1000} {
		got, ok := row.Mix(line("1 2"), bundle(2, n), n)
		checkNone(t, fmt.Sprintf("Mix of rows of %d", n), got, ok)
	}
}

func TestNormTable(t *testing.T) {
	for i, c := range []struct {
		a    fracs
		want fraction
	}{
		{nil, nought()},
		{fracs{}, nought()},
		{line("0"), nought()},
		{line("0 0"), nought()},
		{fracs{{}}, nought()},
		{fracs{over(minus(7)), over(plus(7), 0)}, nought()},
		{line("5"), fr("5")},
		{line("-5"), fr("5")},
		{line("1 2 3"), fr("3")},
		{line("3 2 1"), fr("3")},
		{line("1 3 2"), fr("3")},
		{line("-3 2 1"), fr("3")},
		{line("1 -2 -3"), fr("3")},
		{line("1 -3 2"), fr("3")},
		{line("-3 3"), fr("3")},
		{line("3 -3"), fr("3")},
		{line("-1/2 1/3"), fr("1/2")},
		{line("-1/3 -1/2"), fr("1/2")},
		{line("9/10 -10/11 8/9"), fr("10/11")},
		{line("-1/2 0"), fr("1/2")},
		{fracs{over(plus(2), 4), over(minus(3), 6), over(plus(1), 2)}, fr("1/2")},
		{fracs{over(minus(6, 0), 4, 0)}, fr("3/2")},
		{fracs{over(minus(9), 0), over(minus(1), 3), {}}, fr("1/3")},
		{fracs{over(plus(9)), over(plus(1), 3)}, fr("1/3")},
	} {
		if got := row.Norm(c.a); !same(got, c.want) {
			t.Errorf("%d: Norm(%v): %v; want %v", i, c.a, got, c.want)
		}
	}
}

func TestNormIsTheGreatestWithoutSigns(t *testing.T) {
	all := lines()
	for n := range 40 {
		all = append(all, wound(n, n, 1), wound(n, 0, 7))
	}
	for _, a := range all {
		want := new(big.Rat)
		for _, x := range values(a) {
			if x.Abs(x).Cmp(want) > 0 {
				want = x
			}
		}
		check(t, fmt.Sprintf("Norm(%v)", a), row.Norm(a), want)
	}
}

// The greatest stands at each place once, and at two of them, with either sign.
func TestNormAtEachPlace(t *testing.T) {
	for n := 1; n <= 8; n++ {
		for first := range n {
			for second := range n {
				a := row.Zero(n)
				for i := range a {
					a[i], _ = frac.Ratio(i%3-1, i+2)
				}
				a[first], a[second] = over(minus(7, 0), 9), over(plus(14), 18)
				check(t, fmt.Sprintf("Norm(%v)", a), row.Norm(a), big.NewRat(7, 9))
				a[second] = over(minus(14), 18)
				check(t, fmt.Sprintf("Norm(%v)", a), row.Norm(a), big.NewRat(7, 9))
			}
		}
	}
}

func TestSizeTable(t *testing.T) {
	for i, c := range []struct {
		a    fracs
		want int
	}{
		{nil, 0},
		{fracs{}, 0},
		{fracs{{}}, 0},
		{line("0"), 1},
		{line("1"), 2},
		{line("1/2"), 3},
		{line("-1/2"), 3},
		{line("1 2 4"), 4},
		{line("4 2 1"), 4},
		{line("1 -4 2"), 4},
		{line("-4 1/2 0"), 4},
		{line("1/8 7"), 5},
		{line("7 1/8"), 5},
		{line("0 0 0"), 1},
		{fracs{{}, nought()}, 1},
		{fracs{over(plus(2), 4)}, 5},
		{fracs{over(plus(6, 0, 0), 4, 0)}, 6},
		{fracs{over(minus(7)), over(plus(1), 1)}, 3},
		{fracs{over(plus(1), 1), over(minus(7), 0, 0)}, 3},
		{fracs{over(plus(), 7)}, 3},
		{fracs{over(plus(1), 1), over(plus(0, 1), 0, 1), over(plus(1), 2)}, 66},
		{fracs{{Num: plus(repeat(greatest, 64)...), Den: repeat(greatest, 64)}, over(plus(1), 1)}, 4096},
	} {
		if got := row.Size(c.a); got != c.want {
			t.Errorf("%d: Size(%v): %d; want %d", i, c.a, got, c.want)
		}
	}
}

func TestSizeIsTheGreatestAsTheyStand(t *testing.T) {
	all := lines()
	for n := range 40 {
		all = append(all, wound(n, n, 1), wound(n, 0, 7))
	}
	for _, a := range all {
		want := 0
		for _, c := range a {
			want = max(want, natural(c.Num.Abs).BitLen()+natural(c.Den).BitLen())
		}
		if got := row.Size(a); got != want {
			t.Fatalf("Size(%v): %d; want %d", a, got, want)
		}
	}
}

func TestTextTable(t *testing.T) {
	for i, c := range []struct {
		a    fracs
		want string
	}{
		{nil, ""},
		{fracs{}, ""},
		{line("0"), "0"},
		{line("-3/2"), "-3/2"},
		{line("1 2"), "1,2"},
		{line("1/2 -3"), "1/2,-3"},
		{line("0 0 0"), "0,0,0"},
		{line("1 -1/2 10 -4294967296 1/4294967297"), "1,-1/2,10,-4294967296,1/4294967297"},
		{fracs{{}}, "0"},
		{fracs{over(minus(7)), over(plus(7), 0), over(minus(0), 5)}, "0,0,0"},
		{fracs{over(plus(2), 4), over(minus(6, 0), 4, 0), over(plus(4), 2)}, "1/2,-3/2,2"},
	} {
		if got := row.Text(c.a); got != c.want {
			t.Errorf("%d: Text(%v): %q; want %q", i, c.a, got, c.want)
		}
	}
}

func written(a fracs) string {
	var l []string
	for _, x := range values(a) {
		l = append(l, x.RatString())
	}
	return strings.Join(l, ",")
}

func TestTextIsTheFiguresWithCommasBetween(t *testing.T) {
	all := lines()
	for n := range 40 {
		all = append(all, wound(n, n, 1), wound(n, 0, 7))
	}
	for _, a := range append(all, wound(2000, 0, 1), row.Zero(maxNodes)) {
		if got, want := row.Text(a), written(a); got != want {
			t.Fatalf("Text(%v): %q; want %q", a, got, want)
		}
	}
}

func TestReadTable(t *testing.T) {
	for _, c := range []struct {
		s    string
		want fracs
	}{
		{"", nil},
		{"0", line("0")},
		{"-0", line("0")},
		{"7", line("7")},
		{"-007", line("-7")},
		{"1/2", line("1/2")},
		{"1/2,-3", line("1/2 -3")},
		{"1,2", line("1 2")},
		{"0,0,0", line("0 0 0")},
		{"-6/4,1.25,-0.5,007", line("-3/2 5/4 -1/2 7")},
		{"0/5,-0.0,00", line("0 0 0")},
		{"1,2,3,4,5,6,7", line("1 2 3 4 5 6 7")},
		{"4294967296,-1/4294967296", line("4294967296 -1/4294967296")},
		{digits(maxDigits) + ",-" + digits(maxDigits), line(digits(maxDigits) + " -" + digits(maxDigits))},
	} {
		if got, fault := row.Read(c.s); fault != (api.Fault{}) || !sameLine(got, c.want) {
			t.Errorf("Read(%q): %v, %v; want %v", c.s, got, fault, c.want)
		}
	}
}

// checkRefused asks for what stands beside a fault, too.
func checkRefused(t *testing.T, s string, kind, place int) {
	t.Helper()
	if got, fault := row.Read(s); fault != (api.Fault{Kind: kind, At: place}) || len(got) > 0 {
		t.Fatalf("Read(%q): %v, %v; want none, %v", s, got, fault, api.Fault{Kind: kind, At: place})
	}
}

func TestReadRefusedTable(t *testing.T) {
	for _, c := range []struct {
		s           string
		kind, place int
	}{
		{",", api.Parse, 0},
		{",,", api.Parse, 0},
		{",,,,", api.Parse, 0},
		{",1", api.Parse, 0},
		{",1/0", api.Parse, 0},
		{"1,", api.Parse, 2},
		{"-12,", api.Parse, 4},
		{"1,2,", api.Parse, 4},
		{"1,,2", api.Parse, 2},
		{"1,,", api.Parse, 2},
		{"1,2,,3", api.Parse, 4},
		{"1/2,,,3", api.Parse, 4},
		{"1.25,,", api.Parse, 5},

		{"x", api.Parse, 0},
		{"-", api.Parse, 1},
		{"1/", api.Parse, 2},
		{".5", api.Parse, 0},
		{"+1", api.Parse, 0},
		{"1/0", api.Form, 2},
		{"-12/00", api.Form, 4},

		{"x,1", api.Parse, 0},
		{"1x,1", api.Parse, 1},
		{"--1,1", api.Parse, 1},
		{"1/0,1", api.Form, 2},
		{"1/0x,1", api.Parse, 3},
		{"1.,1", api.Parse, 2},
		{"1/,1", api.Parse, 2},
		{"-,1", api.Parse, 1},

		{"1,x,2", api.Parse, 2},
		{"1,2x,3", api.Parse, 3},
		{"1,-,2", api.Parse, 3},
		{"1,1/0,2", api.Form, 4},
		{"1,-1/00,2", api.Form, 5},
		{"1,2/,3", api.Parse, 4},
		{"1,.5,3", api.Parse, 2},

		{"1,x", api.Parse, 2},
		{"1,2x", api.Parse, 3},
		{"1,2,x", api.Parse, 4},
		{"1/2,-3.4,5/0", api.Form, 11},
		{"1/2,-3.4,5.", api.Parse, 11},
		{"1/2,-3.4,-", api.Parse, 10},
		{"1/2,-3.4,5/6/7", api.Parse, 12},

		{"x,y", api.Parse, 0},
		{"1,x,y", api.Parse, 2},
		{"1/0,x", api.Form, 2},
		{"x,1/0", api.Parse, 0},
		{"1,2/0,3x", api.Form, 4},
		{"1,2x,3/0", api.Parse, 3},
		{"1/0,2/0", api.Form, 2},
		{"1/0,", api.Form, 2},
		{"1/0,,", api.Form, 2},

		{" ", api.Parse, 0},
		{" 1", api.Parse, 0},
		{"1 ,2", api.Parse, 1},
		{"1, 2", api.Parse, 2},
		{"1,2 ", api.Parse, 3},
		{"1 2", api.Parse, 1},
		{"1;2", api.Parse, 1},
		{"1,2\n", api.Parse, 3},
		{"\n1,2", api.Parse, 0},
		{"1,\x00", api.Parse, 2},
		{"1\xac2", api.Parse, 1},
		{"1，2", api.Parse, 1},
		{"1,٣", api.Parse, 2},
		{"½,1", api.Parse, 0},
		{"[1,2]", api.Parse, 0},
		{"1,(2)", api.Parse, 2},

		{digits(maxDigits + 1), api.Parse, maxDigits},
		{"1," + digits(maxDigits+1), api.Parse, maxDigits + 2},
		{"1,-" + digits(maxDigits+1) + ",x", api.Parse, maxDigits + 3},
		{"1," + digits(maxDigits) + "/" + digits(maxDigits+1), api.Parse, 2*maxDigits + 3},
		{digits(maxDigits) + "," + digits(maxDigits) + "/0", api.Form, 2*maxDigits + 2},
	} {
		checkRefused(t, c.s, c.kind, c.place)
	}
}

// refusal is what chapters 11 and 10 say of a text that isn't read; its kind is 0, if it is read.
func refusal(s string) api.Fault {
	if s == "" {
		return api.Fault{}
	}
	start := 0
	for end := 0; end <= len(s); end++ {
		if end == len(s) || s[end] == 44 {
			if fault := wrongFigure(s, start, end); fault.Kind != api.OK {
				return fault
			}
			start = end + 1
		}
	}
	return api.Fault{}
}

func wrongFigure(s string, start, end int) api.Fault {
	mark := start
	for mark < end && s[mark] != 47 && s[mark] != 46 {
		mark++
	}
	ahead := start
	if mark > start && s[start] == 45 {
		ahead++
	}
	if place := wrongDigit(s, ahead, mark); place >= 0 {
		return api.Fault{Kind: api.Parse, At: place}
	}
	if mark == end {
		return api.Fault{}
	}
	if place := wrongDigit(s, mark+1, end); place >= 0 {
		return api.Fault{Kind: api.Parse, At: place}
	}
	if s[mark] == 47 && strings.Trim(s[mark+1:end], "0") == "" {
		return api.Fault{Kind: api.Form, At: mark + 1}
	}
	return api.Fault{}
}

// wrongDigit is the first place from start on, and ahead of end, at which no digit of a number is; -1, if a number is there.
func wrongDigit(s string, start, end int) int {
	for i := start; i < end; i++ {
		if s[i] < 48 || s[i] > 57 || i-start == maxDigits {
			return i
		}
	}
	if start == end {
		return start
	}
	return -1
}

// figures are the values of a text that is read.
func figures(s string) rats {
	if s == "" {
		return nil
	}
	var l rats
	for _, f := range strings.Split(s, ",") {
		num, den, _ := strings.Cut(f, "/")
		if tail := strings.Index(f, "."); tail >= 0 {
			num, den = f[:tail]+f[tail+1:], "1"+strings.Repeat("0", len(f)-tail-1)
		}
		l = append(l, new(big.Rat).SetFrac(decimal(num), decimal(den)))
	}
	return l
}

func decimal(s string) *big.Int {
	if s == "" {
		return big.NewInt(1)
	}
	n, ok := new(big.Int).SetString(s, 10)
	if !ok {
		panic(s + " is no number")
	}
	return n
}

// checkRead holds what s is read as against math/big, or against what is said of its refusal.
func checkRead(t *testing.T, s string) {
	t.Helper()
	if fault := refusal(s); fault.Kind != api.OK {
		checkRefused(t, s, fault.Kind, fault.At)
		return
	}
	got, fault := row.Read(s)
	if fault != (api.Fault{}) {
		t.Fatalf("Read(%q): %v", s, fault)
	}
	checkLine(t, fmt.Sprintf("Read(%q)", s), got, figures(s))
}

// All texts that can be made of a few bytes, up to some length: commas, marks, signs and noughts in all orders.
func TestReadOfAllShortTexts(t *testing.T) {
	texts := []string{""}
	for range 6 {
		var longer []string
		for _, s := range texts {
			checkRead(t, s)
			for _, c := range []string{"0", "6", "-", "/", ".", ","} {
				longer = append(longer, s+c)
			}
		}
		texts = longer
	}
	for _, s := range texts {
		checkRead(t, s)
	}
}

// Each byte at each place: whether it is read, and where it is refused, if it isn't.
func TestReadOfEachByte(t *testing.T) {
	full := digits(maxDigits)
	for _, s := range []string{"7", "1,2", "1/2,-3", "-12/345,0.5,-7", "1,,2", "1/0,3/0", "12,00,1.5/", full + ",-" + full + "/7", "1," + full + "1,2"} {
		for place := range len(s) {
			b := []byte(s)
			for c := range 256 {
				b[place] = byte(c)
				checkRead(t, string(b))
			}
		}
	}
}

// Each of the figures that can't be read stands at each place, alone and with another one behind it or ahead.
func TestReadOfWrongFiguresAtEachPlace(t *testing.T) {
	wrong := []string{"", "x", "-", "--1", "12x", "1/", "/2", "1.", ".5", "1/2/3", "1/0", "-7/000", "0/0", "1/0x", digits(maxDigits + 1), "1/" + digits(maxDigits+1)}
	good := []string{"7", "-1/2", "0.25", "-12.50", "0", "6/4", digits(maxDigits) + "/" + digits(maxDigits)}
	for n := 1; n <= len(good); n++ {
		for first := range n {
			for _, f := range wrong {
				l := slices.Clone(good[:n])
				l[first] = f
				if f != "" || n > 1 {
					if s := strings.Join(l, ","); refusal(s).Kind == api.OK {
						t.Fatalf("%q may be read", s)
					}
				}
				checkRead(t, strings.Join(l, ","))
				for second := range n {
					for _, g := range wrong {
						m := slices.Clone(l)
						m[second] = g
						checkRead(t, strings.Join(m, ","))
					}
				}
			}
		}
	}
}

func TestReadOfManyFigures(t *testing.T) {
	var l []string
	for i := range 5000 {
		l = append(l, fmt.Sprintf("%d/%d", i%77-40, i%13+1))
	}
	s := strings.Join(l, ",")
	checkRead(t, s)
	checkRead(t, s+",")
	checkRead(t, s+",1/0")
	checkRead(t, s+",x,1/0")
	checkRead(t, strings.Repeat(",", 1<<20))
	checkRead(t, "1"+strings.Repeat(",", 1<<20))
	checkRead(t, strings.Repeat("1", 1<<20)+","+s)
}

func TestDotIsSharedOut(t *testing.T) {
	for _, pair := range alike() {
		a, b := pair[0], pair[1]
		n := len(a)
		x, _ := row.Dot(a, b)
		if y, ok := row.Dot(b, a); !ok || !same(x, y) {
			t.Fatalf("Dot(%v, %v): %v, but turned %v", a, b, x, y)
		}
		for _, c := range []fracs{wound(n, 4, 3), wound(n, 0, 1), row.Unit(n, 1), a} {
			y, _ := row.Dot(a, c)
			both, _ := row.Add(b, c)
			if z, ok := row.Dot(a, both); !ok || !same(z, frac.Add(x, y)) {
				t.Fatalf("Dot(%v, %v and %v): %v; want %v and %v", a, b, c, z, x, y)
			}
			less, _ := row.Sub(b, c)
			if z, ok := row.Dot(less, a); !ok || !same(z, frac.Sub(x, y)) {
				t.Fatalf("Dot(%v less %v, %v): %v; want %v less %v", b, c, a, z, x, y)
			}
		}
	}
}

func TestFactorsGoInAndOutOfDot(t *testing.T) {
	for _, pair := range alike() {
		a, b := pair[0], pair[1]
		x, _ := row.Dot(a, b)
		for _, c := range []fraction{{}, fr("1"), fr("-1"), over(plus(6, 0), 4), over(minus(2), 7), over(plus(noise(2)...), 5)} {
			want := frac.Mul(c, x)
			y, _ := row.Dot(row.Scale(c, a), b)
			z, _ := row.Dot(a, row.Scale(c, b))
			if !same(y, want) || !same(z, want) {
				t.Fatalf("%v times Dot(%v, %v): %v and %v; want %v", c, a, b, y, z, want)
			}
			if got, want := row.Norm(row.Scale(c, a)), frac.Mul(frac.Abs(c), row.Norm(a)); !same(got, want) {
				t.Fatalf("Norm of %v times %v: %v; want %v", c, a, got, want)
			}
		}
	}
}

func TestNormOfASumIsAtMostTheSum(t *testing.T) {
	for _, pair := range alike() {
		a, b := pair[0], pair[1]
		both, _ := row.Add(a, b)
		less, _ := row.Sub(a, b)
		limit := frac.Add(row.Norm(a), row.Norm(b))
		if frac.Cmp(row.Norm(both), limit) > 0 || frac.Cmp(row.Norm(less), limit) > 0 {
			t.Fatalf("%v and %v: more than %v", a, b, limit)
		}
		if back, ok := row.Add(less, b); !ok || !row.Same(back, a) {
			t.Fatalf("%v less %v, and added again: %v", a, b, back)
		}
	}
}

// Mix is what Scale and Add are together; by Unit it picks, and of Unit's rows it makes what it was told.
func TestMixIsMadeOfScaleAndAdd(t *testing.T) {
	for count := 1; count <= 6; count++ {
		for n := range 6 {
			l, c := bundle(count, n), wound(count, 1, 5)
			var taken []fracs
			for i, a := range l {
				taken = append(taken, row.Scale(c[i], a))
				picked, ok := row.Mix(row.Unit(count, i), l, n)
				checkSome(t, "Mix by Unit", picked, ok, values(a))
			}
			want, _ := row.Add(taken...)
			if got, ok := row.Mix(c, l, n); !ok || !sameLine(got, want) {
				t.Fatalf("Mix(%v, %v, %d): %v; want %v", c, l, n, got, want)
			}
		}
		var units []fracs
		for i := range count {
			units = append(units, row.Unit(count, i))
		}
		c := wound(count, 1, 5)
		got, ok := row.Mix(c, units, count)
		checkSome(t, "Mix of Units", got, ok, values(c))
	}
}

func TestWhatIsWrittenIsReadAsItWas(t *testing.T) {
	all := append(lines(), row.Zero(maxNodes), row.Unit(maxNodes, 7))
	for n := range 30 {
		all = append(all, wound(n, n, 1), wound(n, 0, 7))
	}
	long := 0
	for _, a := range all {
		s := row.Text(a)
		if refusal(s).Kind != api.OK {
			long++
		}
		checkRead(t, s)
		if back, fault := row.Read(s); fault.Kind == api.OK && (!row.Same(back, a) || row.Text(back) != s) {
			t.Fatalf("Read(%q): %v", s, back)
		}
	}
	if long == len(all) {
		t.Fatal("all are too long")
	}
	// Just as many digits as may be, and one more.
	a := line("1 " + digits(maxDigits) + "/7 -1/" + digits(maxDigits))
	if back, fault := row.Read(row.Text(a)); fault != (api.Fault{}) || !sameLine(back, a) {
		t.Fatalf("Read(Text(%v)): %v, %v", a, back, fault)
	}
	checkRefused(t, row.Text(line("1 "+digits(maxDigits+1)+"/7")), api.Parse, 2+maxDigits)
}

// texts are some that are read, and some that are refused, of each kind.
func texts() []string {
	return []string{"", "0", "-3/2", "1,2", "1/2,-3", "0,0,0", "-6/4,1.25,-0.5,007,1", "1,2,3,4,5,6,7,8,9", digits(maxDigits) + "/7,-" + digits(maxDigits), ",", "1,", "1,,2", "1/2,3/0,5", "1,2,3,4,x", "1/0"}
}

// answers is what calls tell: what is written out, and the rows and fractions that are answered.
type answers struct {
	told  strings.Builder
	rows  []fracs
	fracs fracs
}

func (k *answers) row(a fracs) {
	k.rows = append(k.rows, a)
	fmt.Fprintln(&k.told, wordsOf(a))
}

func (k *answers) try(a fracs, ok bool) {
	k.row(a)
	fmt.Fprintln(&k.told, ok)
}

func (k *answers) frac(a fraction) {
	k.fracs = append(k.fracs, a)
	fmt.Fprintln(&k.told, wordsOf(fracs{a}))
}

// all are the rows that were answered, and one of the fractions.
func (k *answers) all() []fracs { return append(slices.Clone(k.rows), k.fracs) }

// listsOf are all lists of words of rows.
func listsOf(l ...fracs) []list {
	var lists []list
	for _, a := range l {
		for _, c := range a {
			lists = append(lists, c.Num.Abs, c.Den)
		}
	}
	return lists
}

// wordsOf writes a row to the word; a nil list is an empty one.
func wordsOf(a fracs) string {
	var s strings.Builder
	for _, c := range a {
		fmt.Fprint(&s, c.Num.Neg, c.Num.Abs, c.Den, " ")
	}
	return s.String()
}

// calls are all calls that are told rows, made with these.
func calls(c fraction, a, b fracs, l []fracs) *answers {
	k := new(answers)
	k.try(row.Add(a))
	k.try(row.Add(a, b))
	k.try(row.Add(b, a, b))
	k.try(row.Add(l...))
	k.try(row.Sub(a, b))
	k.try(row.Sub(a, a))
	k.row(row.Scale(c, a))
	k.row(row.Scale(c, b))
	for _, pair := range [][2]fracs{{a, b}, {a, a}, {b, b}} {
		x, ok := row.Dot(pair[0], pair[1])
		k.frac(x)
		fmt.Fprintln(&k.told, ok, row.Same(pair[0], pair[1]))
	}
	for _, n := range []int{len(a), len(b), 0, -1} {
		k.try(row.Mix(a, l, n))
		k.try(row.Mix(fracs{c}, l[:min(1, len(l))], n))
	}
	k.frac(row.Norm(a))
	k.frac(row.Norm(b))
	fmt.Fprintln(&k.told, row.Size(a), row.Size(b), row.Text(a), row.Text(b))
	return k
}

// A handful is what calls are made with.
type handful struct {
	c    fraction
	a, b fracs
	l    []fracs
}

func (h handful) calls() *answers { return calls(h.c, h.a, h.b, h.l) }

func handfuls() []handful {
	return []handful{
		{fr("2"), nil, nil, nil},
		{fraction{}, fracs{}, fracs{{}}, []fracs{{}}},
		{over(minus(6, 0), 4), line("1 2"), line("3 4"), []fracs{line("1 2"), line("5 6")}},
		{over(plus(2), 4), fracs{over(plus(2), 4)}, fracs{over(minus(7), 0)}, []fracs{line("1/2")}},
		{nought(), wound(3, 0, 1), wound(3, 5, 2), bundle(3, 3)},
		{fr("1"), wound(5, 12, 3), wound(5, 1, 4), bundle(5, 5)},
		{fr("-5/3"), wound(7, 6, 1), wound(7, 15, 2), bundle(4, 7)},
		{over(plus(noise(2)...), noise(3)...), wound(4, 18, 1), wound(3, 2, 1), bundle(4, 2)},
		{fr("-1"), row.Unit(6, 2), row.Zero(6), []fracs{row.Unit(6, 0), row.Zero(5)}},
	}
}

// lendList hands out a with spare room behind it, whose words show who wrote there, or who read.
func lendList(a list, fill uint32) list { return behind(a, fill, fill, fill)[:len(a)] }

func lend(a fraction, fill uint32) fraction {
	return fraction{Num: number{Neg: a.Num.Neg, Abs: lendList(a.Num.Abs, fill)}, Den: lendList(a.Den, fill)}
}

func lendLine(a fracs, fill uint32) fracs {
	var l fracs
	for _, c := range append(slices.Clone(a), over(plus(fill), fill), over(minus(fill, 1), 1)) {
		l = append(l, lend(c, fill))
	}
	return l[:len(a)]
}

func lendLines(l []fracs, fill uint32) []fracs {
	var m []fracs
	for _, a := range append(slices.Clone(l), fracs{over(plus(fill), 1)}, nil) {
		m = append(m, lendLine(a, fill))
	}
	return m[:len(l)]
}

func (h handful) lent(fill uint32) handful {
	return handful{lend(h.c, fill), lendLine(h.a, fill), lendLine(h.b, fill), lendLines(h.l, fill)}
}

func room(a list) list { return a[:cap(a)] }

// rooms writes rows with all that lies in their spare room, and in that of their fractions.
func rooms(l ...fracs) string {
	var s strings.Builder
	for _, a := range l {
		fmt.Fprint(&s, len(a), ":")
		for _, c := range a[:cap(a)] {
			fmt.Fprint(&s, c.Num.Neg, len(c.Num.Abs), room(c.Num.Abs), len(c.Den), room(c.Den), " ")
		}
	}
	return s.String()
}

func (h handful) rooms() string {
	return fmt.Sprint(len(h.l)) + rooms(append(h.l[:cap(h.l):cap(h.l)], fracs{h.c}, h.a, h.b)...)
}

// checkLists turns the words of one list after the other over, and asks whether those behind it stay; nothing stays of what is handed in.
func checkLists(t *testing.T, call string, lists []list) {
	t.Helper()
	var full []list
	for _, a := range lists {
		full = append(full, room(a))
	}
	for i, a := range full {
		rest := slices.Concat(full[i+1:]...)
		turnOver(a)
		if !slices.Equal(slices.Concat(full[i+1:]...), rest) {
			t.Fatalf("%s: list %d shares memory with another one", call, i)
		}
	}
}

func turnOver(a list) {
	for i := range room(a) {
		room(a)[i] = ^room(a)[i]
	}
}

// spoil writes on all of a row, its spare room too, but not on its fractions' lists.
func spoil(a fracs) {
	for i := range a[:cap(a)] {
		a[:cap(a)][i] = over(minus(4711), 815)
	}
}

func TestWhatIsHandedInIsLeft(t *testing.T) {
	for i, h := range handfuls() {
		want := h.calls().told.String()
		for _, fill := range []uint32{0, 1, greatest} {
			x := h.lent(fill)
			before := x.rooms()
			// The same answers whatever lies behind the lengths, so that isn't read.
			if got := x.calls().told.String(); got != want {
				t.Fatalf("%d with %d behind: %s; want %s", i, fill, got, want)
			}
			if after := x.rooms(); after != before {
				t.Fatalf("%d with %d behind: made of it %s", i, fill, after)
			}
		}
	}
}

// No list of words of an answer is one of an argument, or of another answer, or stands in the answer twice.
func TestAnswersListsAreNewMemory(t *testing.T) {
	for i, h := range handfuls() {
		x := h.lent(5)
		first, second := x.calls(), x.calls()
		want := second.told.String()
		before := x.rooms()
		rest := rooms(second.all()...)
		checkLists(t, fmt.Sprint(i), listsOf(first.all()...))
		if x.rooms() != before {
			t.Fatalf("%d: an answer shares memory with an argument", i)
		}
		if rooms(second.all()...) != rest {
			t.Fatalf("%d: an answer shares memory with that of the same call", i)
		}
		if got := x.calls().told.String(); got != want {
			t.Fatalf("%d: %s, then %s", i, want, got)
		}
	}
}

// So it is with the rows themselves, and with what lies behind them.
func TestAnswersRowsAreNewMemory(t *testing.T) {
	for i, h := range handfuls() {
		x := h.lent(5)
		first, second := x.calls(), x.calls()
		before := x.rooms()
		for k, a := range first.rows {
			others := append(slices.Clone(first.rows[k+1:]), second.rows...)
			rest := rooms(others...)
			spoil(a)
			if x.rooms() != before {
				t.Fatalf("%d: row %d is an argument's", i, k)
			}
			if rooms(others...) != rest {
				t.Fatalf("%d: row %d is another one's", i, k)
			}
		}
	}
}

// made are the rows that are answered to numbers and texts.
func made() []fracs {
	var l []fracs
	for _, n := range []int{-1, 0, 1, 3, maxNodes, maxNodes + 1} {
		mix, _ := row.Mix(nil, nil, n)
		l = append(l, row.Zero(n), mix, row.Unit(n, 0), row.Unit(n, 1), row.Unit(n, n))
	}
	for _, s := range texts() {
		a, _ := row.Read(s)
		l = append(l, a)
	}
	none, _ := row.Add()
	return append(l, none, fracs{row.Norm(nil)})
}

func TestRowsOfNumbersAndTextsAreNewMemory(t *testing.T) {
	first, second := made(), made()
	want := rooms(second...)
	for i, a := range first {
		checkLists(t, fmt.Sprintf("row %d", i), listsOf(a))
		rest := rooms(first[i+1:]...)
		spoil(a)
		if rooms(first[i+1:]...) != rest {
			t.Fatalf("row %d shares memory with one behind it", i)
		}
	}
	if rooms(second...) != want || rooms(made()...) != want {
		t.Fatal("two answers to the same calls share memory, or the later ones are others")
	}
}

// One row may stand at all places.
func TestOneRowAtAllPlaces(t *testing.T) {
	for n := range 6 {
		x := lendLine(wound(n, 3, 5), 5)
		before := rooms(x)
		want := values(x)
		got, ok := row.Add(x, x, x)
		checkSome(t, "Add", got, ok, scaled(big.NewRat(3, 1), want))
		got, ok = row.Sub(x, x)
		checkSome(t, "Sub", got, ok, sums(n))
		checkDot(t, x, x)
		checkMix(t, x, slices.Repeat([]fracs{x}, n), n)
		if n > 0 {
			checkLine(t, "Scale", row.Scale(x[0], x), scaled(want[0], want))
		}
		if !row.Same(x, x) || rooms(x) != before {
			t.Fatalf("%v: made of it %s", x, rooms(x))
		}
	}
}

// What is answered is right where what is handed in is not, beside a false, too.
func TestAnswersAreRight(t *testing.T) {
	for i, h := range handfuls() {
		k := h.calls()
		for _, a := range k.all() {
			for _, c := range a {
				if !same(c, of(value(c))) || !frac.Right(c) {
					t.Fatalf("%d: %v isn't right", i, c)
				}
			}
		}
	}
	for i, a := range made() {
		for _, c := range a {
			if !same(c, of(value(c))) || !frac.Right(c) {
				t.Fatalf("%d: %v isn't right", i, c)
			}
		}
	}
}

// A million noughts at the end of lists cost no more than to go over them.
func TestNoughtsAtTheEndAreCheap(t *testing.T) {
	end := repeat(0, 1000000)
	short := fracs{over(minus(0, 6), 4), over(plus(6), 0, 4), over(minus(7)), {}}
	var long fracs
	for _, a := range short {
		long = append(long, fraction{Num: number{Neg: a.Num.Neg, Abs: behind(a.Num.Abs, end...)}, Den: behind(a.Den, end...)})
	}
	got := calls(long[0], long, long, []fracs{long, long, long, long}).told.String()
	if want := calls(short[0], short, short, []fracs{short, short, short, short}).told.String(); got != want {
		t.Fatalf("%s; want %s", got, want)
	}
}

func TestExamples(t *testing.T) {
	if got, ok := row.Add(line("1 2"), line("3 4")); !ok || !sameLine(got, line("4 6")) {
		t.Error(got, ok)
	}
	if got, ok := row.Dot(line("1 2"), line("3 4")); !ok || !same(got, over(plus(11), 1)) {
		t.Error(got, ok)
	}
	if got, fault := row.Read("1/2,-3"); fault != (api.Fault{}) || !sameLine(got, fracs{over(plus(1), 2), over(minus(3), 1)}) {
		t.Error(got, fault)
	}
	if got, fault := row.Read("1,,2"); fault != (api.Fault{Kind: api.Parse, At: 2}) || len(got) > 0 {
		t.Error(got, fault)
	}
}
