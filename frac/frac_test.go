package frac_test

import (
	"fmt"
	"math"
	"math/big"
	"slices"
	"strings"
	"testing"

	"retrospect/frac"
	"retrospect/whole"
)

const (
	greatest = 0xffffffff
	// As the document names it.
	maxExp = 8
)

type (
	list     = []uint32
	number   = whole.Whole
	fraction = frac.Frac
)

func plus(w ...uint32) number { return number{Abs: w} }

func minus(w ...uint32) number { return number{Neg: true, Abs: w} }

// over writes a fraction as it stands, right or not.
func over(num number, den ...uint32) fraction { return fraction{Num: num, Den: den} }

func repeat(w uint32, n int) list { return slices.Repeat(list{w}, n) }

func behind(a list, w ...uint32) list { return append(slices.Clone(a), w...) }

func natural(a list) *big.Int {
	n := new(big.Int)
	for i := len(a) - 1; i >= 0; i-- {
		n.Or(n.Lsh(n, 32), big.NewInt(int64(a[i])))
	}
	return n
}

func integer(a number) *big.Int {
	n := natural(a.Abs)
	if a.Neg {
		n.Neg(n)
	}
	return n
}

func value(a fraction) *big.Rat {
	den := natural(a.Den)
	if den.Sign() == 0 {
		return new(big.Rat)
	}
	return new(big.Rat).SetFrac(integer(a.Num), den)
}

func words(n *big.Int) list {
	var a list
	for n = new(big.Int).Abs(n); n.Sign() > 0; n.Rsh(n, 32) {
		a = append(a, uint32(n.Uint64()))
	}
	return a
}

// of is the right fraction of a value, as math/big cancels it.
func of(r *big.Rat) fraction {
	return fraction{Num: number{Neg: r.Sign() < 0, Abs: words(r.Num())}, Den: words(r.Denom())}
}

func rat(s string) *big.Rat {
	r, ok := new(big.Rat).SetString(s)
	if !ok {
		panic(s + " is no fraction")
	}
	return r
}

func fr(s string) fraction { return of(rat(s)) }

func rightList(a list) bool { return len(a) == 0 || a[len(a)-1] != 0 }

// right goes by the words of the chapter, without a call that is tested.
func right(a fraction) bool {
	if !rightList(a.Num.Abs) || !rightList(a.Den) || len(a.Den) == 0 || a.Num.Neg && len(a.Num.Abs) == 0 {
		return false
	}
	return new(big.Int).GCD(nil, nil, natural(a.Num.Abs), natural(a.Den)).Cmp(big.NewInt(1)) == 0
}

// same tells whether two are the same to the word; nil and empty lists are one.
func same(a, b fraction) bool {
	return sameNumber(a.Num, b.Num) && slices.Equal(a.Den, b.Den)
}

func sameNumber(a, b number) bool { return a.Neg == b.Neg && slices.Equal(a.Abs, b.Abs) }

// nought is 0 as a right fraction.
func nought() fraction { return over(plus(), 1) }

func noughts() []fraction {
	return []fraction{
		{}, over(plus()), {Den: list{}}, over(plus(), 0), over(plus(), 0, 0), over(plus(7)), over(minus(7)), over(plus(7), 0), over(minus(7), 0, 0, 0), over(plus(6, 0), 0), {Num: minus(1, 2, 3), Den: repeat(0, 1000)},
		over(plus(), 1), over(plus(0), 1), over(plus(0, 0), 1, 0), over(minus(), 1), over(minus(0), 1), over(plus(), 7), over(plus(0), 7, 0), over(minus(), 7), over(minus(0, 0), 7), over(minus(), 0), over(minus(0), 0),
		over(plus(), 0, 1), over(minus(0), greatest, greatest), {Num: minus(repeat(0, 1000)...), Den: list{6}},
	}
}

// What fails on one of the lists without a pattern must fail again, so they are always the same ones.
func noise(n int) list {
	x := uint32(2463534242) + uint32(n)
	a := make(list, n)
	for i := range a {
		x ^= x << 13
		x ^= x >> 17
		x ^= x << 5
		a[i] = x
	}
	return a
}

// At these lists lengths and carries end; some have noughts at the end, so they are not right.
func lists() []list {
	return []list{
		nil, {}, {0}, {0, 0}, {1}, {1, 0}, {2}, {3}, {4, 0, 0}, {6}, {12}, {18, 0}, {35}, {0x10000}, {0x80000000}, {greatest}, {greatest, 0},
		{0, 1}, {1, 1}, {0, 6, 0}, {0, 0x80000000}, {greatest, greatest}, {0, 0, 1}, {0, 0, 12, 0}, {1, 0, 1}, {greatest, greatest, greatest}, {0, 5, 0, 7},
		noise(2), noise(3), noise(5), repeat(greatest, 6),
	}
}

// every is each list over each list, with either sign: right ones, and not right in all ways.
func every() []fraction {
	var l []fraction
	for _, num := range lists() {
		for _, den := range lists() {
			l = append(l, over(plus(num...), den...), over(minus(num...), den...))
		}
	}
	return l
}

// several are enough to be told in pairs: of each kind some, and some values told in several ways.
func several() []fraction {
	l := []fraction{
		over(plus(1), 1), over(minus(1), 1), over(plus(2), 2), over(minus(7, 0), 7), over(plus(1), 2), over(minus(1), 2), over(plus(3), 6), over(minus(3, 0), 6, 0), over(plus(2), 3), over(minus(2), 3), over(plus(0, 2), 0, 3), over(plus(4), 6),
		over(plus(5), 1), over(minus(5), 1), over(plus(1), 5), over(minus(10), 2), over(plus(3), 4), over(plus(4), 3), over(minus(3), 4), over(plus(7), 12), over(minus(5), 18), over(minus(35), 6), over(plus(6), 35), over(plus(12), 18),
		over(plus(greatest), 1), over(minus(1), greatest), over(plus(greatest), 0xfffffffe), over(plus(0xfffffffe), greatest), over(plus(0, 1), greatest), over(minus(greatest), 0, 1), over(minus(0, 1), 0xfffffffe),
		over(plus(0, 1), 1), over(plus(0, 1), 0, 1), over(plus(1), 0, 1), over(minus(1), 0, 0, 1), over(plus(1, 0, 1), 0, 0, 1), over(plus(0, 0, 1), 1, 0, 1), over(minus(0, 0, 6, 0), 0, 4, 0), over(plus(0, 0x80000000), 1), over(minus(0, 0x80000000), 1),
		over(plus(greatest, greatest), greatest), over(minus(greatest, greatest, greatest), greatest, greatest), over(plus(noise(3)...), noise(2)...), over(minus(noise(2)...), noise(3)...), over(plus(noise(5)...), noise(5)...), over(minus(noise(6)...), 12),
		over(plus(noise(7)...), behind(noise(6), 0, 0)...), over(minus(18), noise(4)...), over(plus(repeat(greatest, 5)...), repeat(greatest, 3)...), over(minus(repeat(greatest, 4)...), 0, 0, 0, 0, 1),
	}
	return append(l, noughts()...)
}

// fewer are the most telling of several, for laws of three and for what each call leaves.
func fewer() []fraction {
	return []fraction{
		{}, over(minus(7), 0), over(minus(0), 6, 0), nought(), over(plus(1), 1), over(minus(1), 1), over(plus(6, 0), 4), over(minus(2), 3, 0), over(plus(1), greatest), over(minus(0, 1), 6), over(plus(greatest, greatest), greatest),
		over(plus(noise(3)...), noise(2)...), over(minus(noise(2)...), behind(noise(3), 0)...), over(minus(12), 18), over(plus(5), 12),
	}
}

func check(t *testing.T, call string, got fraction, want *big.Rat) {
	t.Helper()
	if !same(got, of(want)) {
		t.Fatalf("%s: %v; want %v", call, got, of(want))
	}
}

// checkNone asks for what stands beside a false: 0, as a right fraction.
func checkNone(t *testing.T, call string, got fraction, ok bool) {
	t.Helper()
	if ok || !same(got, nought()) {
		t.Fatalf("%s: %v, %v; want 0, false", call, got, ok)
	}
}

func checkSome(t *testing.T, call string, got fraction, ok bool, want *big.Rat) {
	t.Helper()
	if !ok {
		t.Fatalf("%s: false", call)
	}
	check(t, call, got, want)
}

func sum(a, b *big.Rat) *big.Rat { return new(big.Rat).Add(a, b) }

func diff(a, b *big.Rat) *big.Rat { return new(big.Rat).Sub(a, b) }

func product(a, b *big.Rat) *big.Rat { return new(big.Rat).Mul(a, b) }

func quotient(a, b *big.Rat) *big.Rat { return new(big.Rat).Quo(a, b) }

func negative(a *big.Rat) *big.Rat { return new(big.Rat).Neg(a) }

// power asks for an e that may be.
func power(a *big.Rat, e int) *big.Rat {
	p := big.NewRat(1, 1)
	for range max(e, -e) {
		p.Mul(p, a)
	}
	if e < 0 {
		p.Inv(p)
	}
	return p
}

func TestNewTable(t *testing.T) {
	for i, c := range []struct {
		num  number
		den  list
		want fraction
		ok   bool
	}{
		{plus(1), list{2}, over(plus(1), 2), true},
		{plus(6), list{4}, over(plus(3), 2), true},
		{minus(6), list{4}, over(minus(3), 2), true},
		{plus(4), list{2}, over(plus(2), 1), true},
		{plus(7), list{7}, over(plus(1), 1), true},
		{minus(7), list{7}, over(minus(1), 1), true},
		{plus(), list{7}, nought(), true},
		{minus(), list{7}, nought(), true},
		{minus(0, 0), list{1}, nought(), true},
		{plus(), list{0, 7, 0}, nought(), true},
		{minus(1, 0), list{2, 0, 0}, over(minus(1), 2), true},
		{plus(0, 6), list{0, 4}, over(plus(3), 2), true},
		{plus(0, 0, 1), list{0, 1}, over(plus(0, 1), 1), true},
		{minus(0, 1), list{0, 0, 1, 0}, over(minus(1), 0, 1), true},
		{plus(greatest, greatest), list{greatest}, over(plus(1, 1), 1), true},
		{plus(1), nil, nought(), false},
		{plus(1), list{}, nought(), false},
		{plus(1), list{0}, nought(), false},
		{minus(1), list{0, 0, 0}, nought(), false},
		{plus(), nil, nought(), false},
		{minus(), list{0}, nought(), false},
		{minus(noise(9)...), repeat(0, 100), nought(), false},
	} {
		if got, ok := frac.New(c.num, c.den); !same(got, c.want) || ok != c.ok {
			t.Errorf("%d: New(%v, %v): %v, %v; want %v, %v", i, c.num, c.den, got, ok, c.want, c.ok)
		}
	}
}

func TestNewIsTheRightOne(t *testing.T) {
	for _, a := range append(every(), noughts()...) {
		got, ok := frac.New(a.Num, a.Den)
		call := fmt.Sprintf("New(%v, %v)", a.Num, a.Den)
		if natural(a.Den).Sign() == 0 {
			checkNone(t, call, got, ok)
			continue
		}
		checkSome(t, call, got, ok, value(a))
		if !right(got) {
			t.Fatalf("%s: %v isn't right", call, got)
		}
	}
}

// ints are those at which words and ints end, and their neighbours.
func ints() []int {
	l := []int{math.MinInt, math.MinInt + 1, math.MinInt + 2, math.MaxInt - 2, math.MaxInt - 1, math.MaxInt}
	for _, n := range []int{0, 12, 1 << 31, 1 << 32, 1 << 62, 1000000000000000000} {
		for gap := -2; gap <= 2; gap++ {
			l = append(l, n+gap, -n+gap)
		}
	}
	return l
}

func TestOf(t *testing.T) {
	for _, c := range []struct {
		n    int
		want fraction
	}{
		{0, over(plus(), 1)},
		{1, over(plus(1), 1)},
		{-1, over(minus(1), 1)},
		{7, over(plus(7), 1)},
		{-4294967296, over(minus(0, 1), 1)},
		{math.MaxInt, over(plus(greatest, 0x7fffffff), 1)},
		{math.MinInt, over(minus(0, 0x80000000), 1)},
	} {
		if got := frac.Of(c.n); !same(got, c.want) {
			t.Errorf("Of(%d): %v; want %v", c.n, got, c.want)
		}
	}
	for _, n := range ints() {
		check(t, fmt.Sprintf("Of(%d)", n), frac.Of(n), new(big.Rat).SetInt64(int64(n)))
	}
}

func TestRatioTable(t *testing.T) {
	for _, c := range []struct {
		n, d int
		want fraction
		ok   bool
	}{
		{6, -4, over(minus(3), 2), true},
		{-6, 4, over(minus(3), 2), true},
		{-6, -4, over(plus(3), 2), true},
		{6, 4, over(plus(3), 2), true},
		{0, 5, nought(), true},
		{0, -5, nought(), true},
		{5, 1, over(plus(5), 1), true},
		{5, -1, over(minus(5), 1), true},
		{5, 5, over(plus(1), 1), true},
		{5, -5, over(minus(1), 1), true},
		{0, 0, nought(), false},
		{5, 0, nought(), false},
		{-5, 0, nought(), false},
		{math.MinInt, 0, nought(), false},
		{math.MaxInt, 0, nought(), false},
		{math.MinInt, math.MinInt, over(plus(1), 1), true},
		{math.MinInt, -1, over(plus(0, 0x80000000), 1), true},
		{math.MinInt, 1, over(minus(0, 0x80000000), 1), true},
		{math.MinInt, 2, over(minus(0, 0x40000000), 1), true},
		{math.MinInt, -2, over(plus(0, 0x40000000), 1), true},
		{1, math.MinInt, over(minus(1), 0, 0x80000000), true},
		{-1, math.MinInt, over(plus(1), 0, 0x80000000), true},
		{0, math.MinInt, nought(), true},
		{math.MaxInt, math.MaxInt, over(plus(1), 1), true},
		{math.MaxInt, -1, over(minus(greatest, 0x7fffffff), 1), true},
		{math.MaxInt, math.MinInt, over(minus(greatest, 0x7fffffff), 0, 0x80000000), true},
		{math.MinInt, math.MaxInt, over(minus(0, 0x80000000), greatest, 0x7fffffff), true},
	} {
		if got, ok := frac.Ratio(c.n, c.d); !same(got, c.want) || ok != c.ok {
			t.Errorf("Ratio(%d, %d): %v, %v; want %v, %v", c.n, c.d, got, ok, c.want, c.ok)
		}
	}
}

func TestRatioIsTheQuotientOfInts(t *testing.T) {
	for _, n := range ints() {
		for _, d := range ints() {
			got, ok := frac.Ratio(n, d)
			call := fmt.Sprintf("Ratio(%d, %d)", n, d)
			if d == 0 {
				checkNone(t, call, got, ok)
				continue
			}
			checkSome(t, call, got, ok, new(big.Rat).SetFrac(big.NewInt(int64(n)), big.NewInt(int64(d))))
		}
	}
}

func TestNormTable(t *testing.T) {
	for i, c := range []struct{ a, want fraction }{
		{over(plus(3), 2), over(plus(3), 2)},
		{over(minus(3), 2), over(minus(3), 2)},
		{over(plus(5), 1), over(plus(5), 1)},
		{over(plus(3, 0), 2), over(plus(3), 2)},
		{over(plus(3), 2, 0), over(plus(3), 2)},
		{over(minus(3, 0, 0), 2, 0), over(minus(3), 2)},
		{over(plus(6), 4), over(plus(3), 2)},
		{over(minus(6), 4), over(minus(3), 2)},
		{over(minus(12, 0), 4, 0), over(minus(3), 1)},
		{over(plus(0, 0, 5), 0, 10), over(plus(0x80000000), 1)},
		{over(minus(0, 0, 5), 10), over(minus(0, 0x80000000), 1)},
		{over(plus(6), 0, 6), over(plus(1), 0, 1)},
	} {
		if got := frac.Norm(c.a); !same(got, c.want) {
			t.Errorf("%d: Norm(%v): %v; want %v", i, c.a, got, c.want)
		}
	}
}

func TestNormIsTheRightOne(t *testing.T) {
	for _, a := range append(every(), several()...) {
		got := frac.Norm(a)
		if !right(got) {
			t.Fatalf("Norm(%v): %v isn't right", a, got)
		}
		check(t, fmt.Sprintf("Norm(%v)", a), got, value(a))
	}
}

func TestNoughtsAreNormedToOne(t *testing.T) {
	for _, a := range noughts() {
		if got := frac.Norm(a); !same(got, nought()) {
			t.Errorf("Norm(%v): %v", a, got)
		}
	}
}

func TestRightTable(t *testing.T) {
	for i, c := range []struct {
		a    fraction
		want bool
	}{
		{over(plus(), 1), true},
		{over(number{Abs: list{}}, 1), true},
		{over(plus(1), 1), true},
		{over(minus(1), 1), true},
		{over(plus(3), 2), true},
		{over(minus(3), 2), true},
		{over(plus(1), 0, 1), true},
		{over(minus(0, 1), 3), true},
		{over(plus(greatest, greatest), 0, 1), true},
		{fraction{}, false},
		{over(plus(1)), false},
		{fraction{Num: plus(1), Den: list{}}, false},
		{over(plus(), 0), false},
		{over(plus(1), 0), false},
		{over(plus(1), 0, 0), false},
		{over(plus(0), 1), false},
		{over(plus(0, 0), 1), false},
		{over(plus(1, 0), 1), false},
		{over(minus(1, 0), 2), false},
		{over(plus(0, 1, 0), 3), false},
		{over(plus(1), 1, 0), false},
		{over(plus(1), 2, 0), false},
		{over(minus(3), 2, 0, 0), false},
		{over(minus(), 1), false},
		{over(number{Neg: true, Abs: list{}}, 1), false},
		{over(minus(0), 1), false},
		{over(plus(), 2), false},
		{over(plus(), 0, 1), false},
		{over(minus(), 2), false},
		{over(plus(2), 2), false},
		{over(plus(6), 4), false},
		{over(minus(6), 4), false},
		{over(plus(4), 2), false},
		{over(plus(2), 4), false},
		{over(plus(0, 1), 0, 1), false},
		{over(plus(0, 3), 2), false},
		{over(plus(greatest, greatest), greatest), false},
	} {
		if got := frac.Right(c.a); got != c.want {
			t.Errorf("%d: Right(%v): %v", i, c.a, got)
		}
	}
}

func TestRightIsWhatTheWordsSay(t *testing.T) {
	for _, a := range append(every(), several()...) {
		if got := frac.Right(a); got != right(a) {
			t.Fatalf("Right(%v): %v", a, got)
		}
		if n := frac.Norm(a); !frac.Right(n) || frac.Right(a) != same(a, n) {
			t.Fatalf("%v isn't Right, but %v answered", a, n)
		}
	}
}

func TestSign(t *testing.T) {
	for _, a := range noughts() {
		if got := frac.Sign(a); got != 0 {
			t.Errorf("Sign(%v): %d", a, got)
		}
	}
	for _, a := range append(every(), several()...) {
		if got, want := frac.Sign(a), value(a).Sign(); got != want {
			t.Fatalf("Sign(%v): %d; want %d", a, got, want)
		}
	}
}

func TestCmpAndSameTable(t *testing.T) {
	for i, c := range []struct {
		a, b fraction
		want int
	}{
		{over(plus(1), 2), over(plus(1), 3), 1},
		{over(plus(1), 3), over(plus(1), 2), -1},
		{over(minus(1), 2), over(minus(1), 3), -1},
		{over(minus(1), 3), over(minus(1), 2), 1},
		{over(minus(1), 2), over(plus(1), 3), -1},
		{over(plus(1), 3), over(minus(1), 2), 1},
		{over(minus(5), 1), over(plus(1), 5), -1},
		{over(plus(1), 5), over(minus(5), 1), 1},
		{over(plus(2), 3), over(plus(2), 3), 0},
		{over(plus(2), 3), over(plus(4), 6), 0},
		{over(minus(2), 3), over(minus(4, 0), 6), 0},
		{over(minus(2), 3), over(plus(2), 3), -1},
		{over(plus(0, 2), 0, 3), over(plus(2), 3, 0), 0},
		{over(plus(2), 1), over(plus(4), 3), 1},
		{over(plus(9), 10), over(plus(10), 11), -1},
		{over(minus(9), 10), over(minus(10), 11), 1},
		{over(plus(3), 2), over(plus(2), 3), 1},
		{over(plus(), 1), over(plus(1), 7), -1},
		{over(plus(), 1), over(minus(1), 7), 1},
		{over(plus(1), 7), over(plus(), 1), 1},
		{over(minus(1), 7), over(plus(), 1), -1},
		{over(plus(5)), over(plus(1), 7), -1},
		{over(plus(5)), over(minus(1), 7), 1},
		{over(minus(1), 7), over(minus(5), 0), -1},
		{over(plus(1), 7), over(plus(5), 0), 1},
		{over(plus(5)), over(plus(), 3), 0},
		{over(plus(), 3), over(minus(5), 0), 0},
		{over(plus(5)), over(minus(7), 0), 0},
	} {
		if got := frac.Cmp(c.a, c.b); got != c.want {
			t.Errorf("%d: Cmp(%v, %v): %d; want %d", i, c.a, c.b, got, c.want)
		}
		if got := frac.Same(c.a, c.b); got != (c.want == 0) {
			t.Errorf("%d: Same(%v, %v): %v", i, c.a, c.b, got)
		}
	}
}

// closePairs are two fractions each, the lesser one first, between which there is hardly room for another one as short.
func closePairs() [][2]*big.Rat {
	var l [][2]*big.Rat
	one := big.NewInt(1)
	for _, a := range []list{{2}, {9}, {greatest}, {0, 1}, {greatest, greatest}, noise(4), noise(10), repeat(greatest, 20), behind(repeat(0, 40), 1)} {
		n := natural(a)
		less, more := new(big.Int).Sub(n, one), new(big.Int).Add(n, one)
		l = append(l, [2]*big.Rat{new(big.Rat).SetFrac(less, n), new(big.Rat).SetFrac(n, more)}, [2]*big.Rat{new(big.Rat).SetFrac(n, more), big.NewRat(1, 1)}, [2]*big.Rat{new(big.Rat).SetFrac(one, more), new(big.Rat).SetFrac(one, n)}, [2]*big.Rat{new(big.Rat), new(big.Rat).SetFrac(one, n)}, [2]*big.Rat{new(big.Rat).SetInt(n), new(big.Rat).SetInt(more)})
	}
	return l
}

func TestCmpOfFractionsThatDifferByVeryLittle(t *testing.T) {
	for _, pair := range closePairs() {
		a, b := of(pair[0]), of(pair[1])
		c, d := of(negative(pair[0])), of(negative(pair[1]))
		for _, got := range []int{frac.Cmp(a, b), -frac.Cmp(b, a), frac.Cmp(d, c), -frac.Cmp(c, d)} {
			if got != -1 {
				t.Fatalf("%v and %v: %d", a, b, got)
			}
		}
		if frac.Same(a, b) || frac.Same(c, d) || !frac.Same(a, a) || !frac.Same(d, d) {
			t.Fatalf("%v and %v: the same", a, b)
		}
		check(t, "their difference", frac.Sub(b, a), diff(pair[1], pair[0]))
	}
}

func TestNoughtsAreTheSame(t *testing.T) {
	for _, a := range noughts() {
		for _, b := range noughts() {
			if got := frac.Cmp(a, b); got != 0 || !frac.Same(a, b) {
				t.Errorf("Cmp(%v, %v): %d", a, b, got)
			}
		}
	}
}

// Of all pairs: of fractions that are not right, too, and each with its own copy and others of its value.
func TestPairsAreThoseOfTheValues(t *testing.T) {
	all := several()
	for _, a := range all {
		x := value(a)
		for _, b := range all {
			y := value(b)
			pair := fmt.Sprintf("(%v, %v)", a, b)
			if got, want := frac.Cmp(a, b), x.Cmp(y); got != want || frac.Same(a, b) != (want == 0) {
				t.Fatalf("Cmp%s: %d; want %d", pair, got, want)
			}
			check(t, "Add"+pair, frac.Add(a, b), sum(x, y))
			check(t, "Sub"+pair, frac.Sub(a, b), diff(x, y))
			check(t, "Mul"+pair, frac.Mul(a, b), product(x, y))
			checkQuo(t, a, b)
			checkMax(t, a, b)
		}
	}
}

func checkQuo(t *testing.T, a, b fraction) {
	t.Helper()
	got, ok := frac.Quo(a, b)
	call := fmt.Sprintf("Quo(%v, %v)", a, b)
	if value(b).Sign() == 0 {
		checkNone(t, call, got, ok)
		return
	}
	checkSome(t, call, got, ok, quotient(value(a), value(b)))
}

func checkMax(t *testing.T, l ...fraction) {
	t.Helper()
	want := value(l[0])
	for _, a := range l[1:] {
		if x := value(a); x.Cmp(want) > 0 {
			want = x
		}
	}
	check(t, fmt.Sprintf("Max(%v)", l), frac.Max(l...), want)
}

func TestNegAndAbs(t *testing.T) {
	for i, c := range []struct{ a, neg, abs fraction }{
		{over(plus(3), 2), over(minus(3), 2), over(plus(3), 2)},
		{over(minus(3), 2), over(plus(3), 2), over(plus(3), 2)},
		{over(plus(6), 4, 0), over(minus(3), 2), over(plus(3), 2)},
		{over(minus(6, 0), 4), over(plus(3), 2), over(plus(3), 2)},
		{over(minus(0, 0x80000000), 1), over(plus(0, 0x80000000), 1), over(plus(0, 0x80000000), 1)},
		{nought(), nought(), nought()},
		{over(minus(), 5), nought(), nought()},
		{over(minus(5)), nought(), nought()},
		{over(plus(5), 0), nought(), nought()},
	} {
		if got := frac.Neg(c.a); !same(got, c.neg) {
			t.Errorf("%d: Neg(%v): %v; want %v", i, c.a, got, c.neg)
		}
		if got := frac.Abs(c.a); !same(got, c.abs) {
			t.Errorf("%d: Abs(%v): %v; want %v", i, c.a, got, c.abs)
		}
	}
	for _, a := range append(every(), several()...) {
		x := value(a)
		check(t, fmt.Sprintf("Neg(%v)", a), frac.Neg(a), negative(x))
		check(t, fmt.Sprintf("Neg(Neg(%v))", a), frac.Neg(frac.Neg(a)), x)
		check(t, fmt.Sprintf("Abs(%v)", a), frac.Abs(a), new(big.Rat).Abs(x))
	}
}

func TestAddAndSubTable(t *testing.T) {
	for _, c := range []struct{ a, b, sum, diff string }{
		{"1/2", "1/3", "5/6", "1/6"},
		{"1/3", "1/2", "5/6", "-1/6"},
		{"1/2", "1/2", "1", "0"},
		{"1/2", "-1/2", "0", "1"},
		{"-1/2", "1/2", "0", "-1"},
		{"-1/2", "-1/2", "-1", "0"},
		{"1/6", "1/3", "1/2", "-1/6"},
		{"1/6", "1/10", "4/15", "1/15"},
		{"5/6", "1/6", "1", "2/3"},
		{"-1/6", "2/3", "1/2", "-5/6"},
		{"3/4", "5/4", "2", "-1/2"},
		{"1/12", "-1/18", "1/36", "5/36"},
		{"7", "1/7", "50/7", "48/7"},
		{"7", "5", "12", "2"},
		{"0", "3/7", "3/7", "-3/7"},
		{"3/7", "0", "3/7", "3/7"},
		{"0", "0", "0", "0"},
		{"1/4294967296", "1/4294967296", "1/2147483648", "0"},
		{"1/4294967295", "1/4294967296", "8589934591/18446744069414584320", "1/18446744069414584320"},
		{"18446744073709551615", "1/18446744073709551616", "340282366920938463444927863358058659841/18446744073709551616", "340282366920938463444927863358058659839/18446744073709551616"},
	} {
		if got := frac.Add(fr(c.a), fr(c.b)); !same(got, fr(c.sum)) {
			t.Errorf("Add(%s, %s): %v; want %s", c.a, c.b, got, c.sum)
		}
		if got := frac.Sub(fr(c.a), fr(c.b)); !same(got, fr(c.diff)) {
			t.Errorf("Sub(%s, %s): %v; want %s", c.a, c.b, got, c.diff)
		}
	}
}

func TestMulAndQuoTable(t *testing.T) {
	for _, c := range []struct{ a, b, product, quotient string }{
		{"1/2", "1/3", "1/6", "3/2"},
		{"2/3", "3/2", "1", "4/9"},
		{"-2/3", "3/2", "-1", "-4/9"},
		{"2/3", "-3/2", "-1", "-4/9"},
		{"-2/3", "-3/2", "1", "4/9"},
		{"2/3", "2/3", "4/9", "1"},
		{"-2/3", "2/3", "-4/9", "-1"},
		{"4/9", "3/8", "1/6", "32/27"},
		{"6/35", "35/6", "1", "36/1225"},
		{"5", "1/5", "1", "25"},
		{"5", "-2", "-10", "-5/2"},
		{"1", "-7/3", "-7/3", "-3/7"},
		{"-1", "7/3", "-7/3", "-3/7"},
		{"0", "7/3", "0", "0"},
		{"0", "-7/3", "0", "0"},
		{"4294967296", "1/4294967296", "1", "18446744073709551616"},
		{"4294967295/4294967296", "4294967296/4294967295", "1", "18446744065119617025/18446744073709551616"},
		{"-18446744073709551616", "1/4294967296", "-4294967296", "-79228162514264337593543950336"},
	} {
		if got := frac.Mul(fr(c.a), fr(c.b)); !same(got, fr(c.product)) {
			t.Errorf("Mul(%s, %s): %v; want %s", c.a, c.b, got, c.product)
		}
		if got, ok := frac.Quo(fr(c.a), fr(c.b)); !ok || !same(got, fr(c.quotient)) {
			t.Errorf("Quo(%s, %s): %v, %v; want %s", c.a, c.b, got, ok, c.quotient)
		}
	}
}

// A nought counts as 0 however it's told, also where its Num says otherwise.
func TestReckoningWithNoughts(t *testing.T) {
	for _, zero := range noughts() {
		for _, a := range several() {
			x, pair := value(a), fmt.Sprintf(" of %v and %v", zero, a)
			check(t, "Add"+pair, frac.Add(zero, a), x)
			check(t, "Add turned"+pair, frac.Add(a, zero), x)
			check(t, "Sub"+pair, frac.Sub(zero, a), negative(x))
			check(t, "Sub turned"+pair, frac.Sub(a, zero), x)
			check(t, "Mul"+pair, frac.Mul(zero, a), new(big.Rat))
			check(t, "Mul turned"+pair, frac.Mul(a, zero), new(big.Rat))
			got, ok := frac.Quo(a, zero)
			checkNone(t, "Quo turned"+pair, got, ok)
			checkQuo(t, zero, a)
		}
	}
}

// Of one fraction twice, the lists being the same ones.
func TestReckoningWithItself(t *testing.T) {
	for _, a := range append(every(), several()...) {
		x, twice := value(a), fmt.Sprintf(" of %v twice", a)
		check(t, "Add"+twice, frac.Add(a, a), sum(x, x))
		check(t, "Sub"+twice, frac.Sub(a, a), new(big.Rat))
		check(t, "Mul"+twice, frac.Mul(a, a), product(x, x))
		checkQuo(t, a, a)
		if got := frac.Cmp(a, a); got != 0 || !frac.Same(a, a) {
			t.Fatalf("Cmp%s: %d", twice, got)
		}
		counterpart := fraction{Num: number{Neg: !a.Num.Neg, Abs: a.Num.Abs}, Den: a.Den}
		check(t, "Add with the counterpart"+twice, frac.Add(a, counterpart), new(big.Rat))
	}
}

func TestPowTable(t *testing.T) {
	for i, c := range []struct {
		a    fraction
		e    int
		want fraction
		ok   bool
	}{
		{fr("2/3"), 2, fr("4/9"), true},
		{fr("2/3"), -2, fr("9/4"), true},
		{fr("-2/3"), 3, fr("-8/27"), true},
		{fr("-2/3"), -3, fr("-27/8"), true},
		{fr("-2/3"), 4, fr("16/81"), true},
		{fr("-2/3"), -4, fr("81/16"), true},
		{fr("2/3"), 1, fr("2/3"), true},
		{fr("-2/3"), -1, fr("-3/2"), true},
		{fr("2/3"), 0, fr("1"), true},
		{fr("-2/3"), 0, fr("1"), true},
		{fr("2"), 8, fr("256"), true},
		{fr("2"), -8, fr("1/256"), true},
		{fr("-3/2"), 7, fr("-2187/128"), true},
		{fr("1"), -8, fr("1"), true},
		{fr("-1"), 7, fr("-1"), true},
		{fr("-1"), -8, fr("1"), true},
		{over(plus(6), 4), 2, fr("9/4"), true},
		{over(minus(6, 0), 4), -1, fr("-2/3"), true},
		{fr("2"), 9, nought(), false},
		{fr("2"), -9, nought(), false},
		{fr("1"), 9, nought(), false},
		{fr("1"), -9, nought(), false},
		{nought(), 9, nought(), false},
		{nought(), -9, nought(), false},
		{nought(), 0, fr("1"), true},
		{nought(), 1, nought(), true},
		{nought(), 8, nought(), true},
		{nought(), -1, nought(), false},
		{nought(), -8, nought(), false},
	} {
		if got, ok := frac.Pow(c.a, c.e); !same(got, c.want) || ok != c.ok {
			t.Errorf("%d: Pow(%v, %d): %v, %v; want %v, %v", i, c.a, c.e, got, ok, c.want, c.ok)
		}
	}
}

func checkPow(t *testing.T, a fraction, e int) {
	t.Helper()
	got, ok := frac.Pow(a, e)
	call := fmt.Sprintf("Pow(%v, %d)", a, e)
	if e < -maxExp || e > maxExp || e < 0 && value(a).Sign() == 0 {
		checkNone(t, call, got, ok)
		return
	}
	checkSome(t, call, got, ok, power(value(a), e))
}

func TestPowOfEachExponent(t *testing.T) {
	beyond := []int{math.MinInt, math.MinInt + 1, math.MinInt + maxExp, -1 << 32, -1<<32 + 1, -256, 256, 1 << 32, 1<<32 + 1, math.MaxInt - 1, math.MaxInt}
	for _, a := range several() {
		for e := -maxExp - 12; e <= maxExp+12; e++ {
			checkPow(t, a, e)
		}
		for _, e := range beyond {
			got, ok := frac.Pow(a, e)
			checkNone(t, fmt.Sprintf("Pow(%v, %d)", a, e), got, ok)
		}
	}
}

// No length is refused: layer 4's powers end at 65536 bits, these don't.
func TestPowOfLongFractions(t *testing.T) {
	for _, a := range []fraction{over(plus(noise(300)...), 3), over(minus(5), noise(300)...), over(minus(noise(520)...), noise(260)...), over(plus(behind(repeat(0, 2100), 1)...), 1)} {
		for _, e := range []int{-8, -7, -1, 0, 1, 2, 7, 8} {
			checkPow(t, a, e)
		}
	}
}

func TestPowersAreMultipliedByAddingExponents(t *testing.T) {
	for _, a := range several() {
		if frac.Sign(a) == 0 {
			continue
		}
		for e := -4; e <= 4; e++ {
			for g := -4; g <= 4; g++ {
				x, _ := frac.Pow(a, e)
				y, _ := frac.Pow(a, g)
				if z, ok := frac.Pow(a, e+g); !ok || !same(frac.Mul(x, y), z) {
					t.Fatalf("%v: %d and %d: %v", a, e, g, z)
				}
			}
		}
	}
}

func TestMaxTable(t *testing.T) {
	for i, c := range []struct {
		l    []fraction
		want fraction
	}{
		{nil, nought()},
		{[]fraction{}, nought()},
		{[]fraction{fr("3/2")}, fr("3/2")},
		{[]fraction{fr("-3/2")}, fr("-3/2")},
		{[]fraction{over(minus(6, 0), 4)}, fr("-3/2")},
		{[]fraction{{}}, nought()},
		{[]fraction{over(plus(5))}, nought()},
		{[]fraction{fr("1/2"), fr("1/3")}, fr("1/2")},
		{[]fraction{fr("1/3"), fr("1/2")}, fr("1/2")},
		{[]fraction{fr("-1/2"), fr("-1/3")}, fr("-1/3")},
		{[]fraction{fr("-1/3"), fr("-1/2"), fr("-7")}, fr("-1/3")},
		{[]fraction{fr("-1/3"), over(minus(7), 0), fr("-1/2")}, nought()},
		{[]fraction{fr("1/3"), over(plus(7), 0), fr("1/4")}, fr("1/3")},
		{[]fraction{fr("-1"), {}, fr("-2")}, nought()},
		{[]fraction{fr("1"), fr("5"), fr("3")}, fr("5")},
		{[]fraction{fr("5"), fr("1"), fr("3")}, fr("5")},
		{[]fraction{fr("1"), fr("3"), fr("5")}, fr("5")},
		{[]fraction{over(plus(2), 4), over(plus(3), 6), fr("1/2")}, fr("1/2")},
		{[]fraction{fr("1/2"), over(plus(3, 0), 6), over(plus(2), 4, 0)}, fr("1/2")},
		{[]fraction{over(minus(2), 4), over(minus(3), 6)}, fr("-1/2")},
		{[]fraction{over(minus(), 5), over(plus(7)), {}}, nought()},
		{[]fraction{fr("9/10"), fr("10/11"), fr("8/9")}, fr("10/11")},
	} {
		if got := frac.Max(c.l...); !same(got, c.want) {
			t.Errorf("%d: Max(%v): %v; want %v", i, c.l, got, c.want)
		}
	}
	if got := frac.Max(); !same(got, nought()) {
		t.Errorf("Max(): %v", got)
	}
}

// The greatest stands at each place once.
func TestMaxAtEachPlace(t *testing.T) {
	all := several()
	for n := 1; n <= len(all); n++ {
		checkMax(t, all[:n]...)
		checkMax(t, all[len(all)-n:]...)
		checkMax(t, slices.Concat(all[n-1:], all[:n-1])...)
	}
}

func TestFloorTable(t *testing.T) {
	for i, c := range []struct {
		a    fraction
		want number
	}{
		{fr("1/2"), plus()},
		{fr("-1/2"), minus(1)},
		{fr("3/2"), plus(1)},
		{fr("-3/2"), minus(2)},
		{fr("7"), plus(7)},
		{fr("-7"), minus(7)},
		{fr("1"), plus(1)},
		{fr("-1"), minus(1)},
		{over(minus(8), 4), minus(2)},
		{over(minus(9), 4), minus(3)},
		{over(minus(7), 4), minus(2)},
		{over(plus(8), 4), plus(2)},
		{over(plus(7), 4), plus(1)},
		{over(plus(9, 0), 4, 0), plus(2)},
		{nought(), plus()},
		{over(minus(), 1), plus()},
		{over(minus(0), 7), plus()},
		{fraction{}, plus()},
		{over(plus(7)), plus()},
		{over(minus(7), 0), plus()},
		{over(minus(7), 0, 0), plus()},
		{over(minus(1), 0, 0, 1), minus(1)},
		{over(plus(greatest), 0, 1), plus()},
		{over(minus(0, 0, 1), greatest), minus(2, 1)},
	} {
		if got := frac.Floor(c.a); !sameNumber(got, c.want) {
			t.Errorf("%d: Floor(%v): %v; want %v", i, c.a, got, c.want)
		}
	}
}

// The floor is the one whole number that is not above the value, and is less than 1 below it.
func TestFloorIsTheGreatestNotAbove(t *testing.T) {
	one := big.NewRat(1, 1)
	for _, a := range append(every(), several()...) {
		x, floor := value(a), frac.Floor(a)
		n := new(big.Rat).SetInt(integer(floor))
		if n.Cmp(x) > 0 || sum(n, one).Cmp(x) <= 0 || !rightList(floor.Abs) || floor.Neg && len(floor.Abs) == 0 {
			t.Fatalf("Floor(%v): %v", a, floor)
		}
	}
}

func TestSizeTable(t *testing.T) {
	for i, c := range []struct {
		a    fraction
		want int
	}{
		{fr("1/2"), 3},
		{fr("-1/2"), 3},
		{nought(), 1},
		{fr("1"), 2},
		{fr("8"), 5},
		{fr("7/8"), 7},
		{fraction{}, 0},
		{over(plus(), 0), 0},
		{over(plus(7)), 3},
		{over(minus(7), 0), 3},
		{over(plus(), 7), 3},
		{over(minus(0), 7, 0), 3},
		{over(plus(2), 4), 5},
		{over(plus(6), 4), 6},
		{over(plus(6, 0, 0), 4, 0), 6},
		{over(minus(1), 0, 1), 34},
		{over(plus(0, 1), 0, 1), 66},
		{over(plus(greatest), greatest), 64},
		{over(plus(greatest, greatest), 0, 0, 1), 129},
		{over(plus(0, 0x80000000, 0), 1), 65},
		{fraction{Num: plus(repeat(greatest, 64)...), Den: repeat(greatest, 64)}, 4096},
	} {
		if got := frac.Size(c.a); got != c.want {
			t.Errorf("%d: Size(%v): %d; want %d", i, c.a, got, c.want)
		}
	}
}

func TestSizeIsThatOfBothAsTheyStand(t *testing.T) {
	for _, a := range append(every(), several()...) {
		if got, want := frac.Size(a), natural(a.Num.Abs).BitLen()+natural(a.Den).BitLen(); got != want {
			t.Fatalf("Size(%v): %d; want %d", a, got, want)
		}
	}
}

func TestFractionsAreAField(t *testing.T) {
	all := fewer()
	for _, a := range all {
		if one, ok := frac.Quo(frac.Of(1), a); ok != (frac.Sign(a) != 0) || ok && !same(frac.Mul(one, a), frac.Of(1)) {
			t.Fatalf("1 over %v: %v, %v", a, one, ok)
		}
		check(t, "with 0", frac.Add(a, frac.Of(0)), value(a))
		check(t, "with 1", frac.Mul(a, frac.Of(1)), value(a))
		for _, b := range all {
			if !same(frac.Add(a, b), frac.Add(b, a)) || !same(frac.Mul(a, b), frac.Mul(b, a)) {
				t.Fatalf("%v and %v: the order counts", a, b)
			}
			if !same(frac.Add(frac.Sub(a, b), b), frac.Norm(a)) || !same(frac.Sub(a, b), frac.Neg(frac.Sub(b, a))) {
				t.Fatalf("%v and %v: the difference is another one", a, b)
			}
			if q, ok := frac.Quo(a, b); ok && !same(frac.Mul(q, b), frac.Norm(a)) {
				t.Fatalf("%v and %v: the quotient is another one", a, b)
			}
			for _, c := range all {
				checkThree(t, a, b, c)
			}
		}
	}
}

func checkThree(t *testing.T, a, b, c fraction) {
	t.Helper()
	if !same(frac.Add(frac.Add(a, b), c), frac.Add(a, frac.Add(b, c))) || !same(frac.Mul(frac.Mul(a, b), c), frac.Mul(a, frac.Mul(b, c))) {
		t.Fatalf("%v, %v, %v: the order counts", a, b, c)
	}
	if !same(frac.Mul(a, frac.Add(b, c)), frac.Add(frac.Mul(a, b), frac.Mul(a, c))) {
		t.Fatalf("%v, %v, %v: the product isn't shared out", a, b, c)
	}
}

func TestFractionsAreOrdered(t *testing.T) {
	all := fewer()
	for _, a := range all {
		for _, b := range all {
			order := frac.Cmp(a, b)
			if frac.Cmp(b, a) != -order || frac.Sign(frac.Sub(a, b)) != order || frac.Same(a, b) != (order == 0) {
				t.Fatalf("%v and %v: %d", a, b, order)
			}
			for _, c := range all {
				if got := frac.Cmp(frac.Add(a, c), frac.Add(b, c)); got != order {
					t.Fatalf("%v and %v, with %v added: %d, then %d", a, b, c, order, got)
				}
				if got := frac.Cmp(frac.Mul(a, c), frac.Mul(b, c)); got != order*frac.Sign(c) {
					t.Fatalf("%v and %v, times %v: %d, then %d", a, b, c, order, got)
				}
				if order <= 0 && frac.Cmp(b, c) <= 0 && frac.Cmp(a, c) > 0 {
					t.Fatalf("%v, %v, %v: in a ring", a, b, c)
				}
			}
		}
	}
}

// There is one right fraction of a value.
func TestOneRightFractionOfAValue(t *testing.T) {
	all := several()
	for _, a := range all {
		for _, b := range all {
			if frac.Same(a, b) != same(frac.Norm(a), frac.Norm(b)) {
				t.Fatalf("%v and %v: %v and %v", a, b, frac.Norm(a), frac.Norm(b))
			}
			if frac.Same(a, b) && frac.Right(a) && frac.Right(b) && !same(a, b) {
				t.Fatalf("%v and %v are both right", a, b)
			}
		}
	}
}

// Small ones against the machine's own numbers, of which nothing is too long.
func TestSmallFractionsAreThoseOfTheMachine(t *testing.T) {
	for n := -9; n <= 9; n++ {
		for d := 1; d <= 9; d++ {
			a, _ := frac.Ratio(n, d)
			for m := -9; m <= 9; m++ {
				for e := 1; e <= 9; e++ {
					b, _ := frac.Ratio(m, e)
					pair := fmt.Sprintf("(%d/%d, %d/%d)", n, d, m, e)
					checkRatio(t, "Add"+pair, frac.Add(a, b), n*e+m*d, d*e)
					checkRatio(t, "Sub"+pair, frac.Sub(a, b), n*e-m*d, d*e)
					checkRatio(t, "Mul"+pair, frac.Mul(a, b), n*m, d*e)
					if q, ok := frac.Quo(a, b); ok != (m != 0) {
						t.Fatalf("Quo%s: %v, %v", pair, q, ok)
					} else if ok {
						checkRatio(t, "Quo"+pair, q, n*e, d*m)
					}
				}
			}
		}
	}
}

func checkRatio(t *testing.T, call string, got fraction, n, d int) {
	t.Helper()
	check(t, call, got, big.NewRat(int64(n), int64(d)))
}

// exponents are enough for what holds of all calls.
func exponents() []int { return []int{-9, -8, -1, 0, 1, 3, 8, 9} }

// calls are all calls that are told fractions; of each what it answers, written out, and the lists of its answers.
func calls(a, b fraction) (string, []list) {
	made, ok := frac.New(a.Num, b.Den)
	q, divided := frac.Quo(a, b)
	l := []fraction{made, frac.Norm(a), frac.Neg(a), frac.Abs(a), frac.Add(a, b), frac.Sub(a, b), frac.Mul(a, b), q, frac.Max(a), frac.Max(a, b), frac.Max(b, a, b)}
	var oks []bool
	for _, e := range exponents() {
		p, ok := frac.Pow(a, e)
		l, oks = append(l, p), append(oks, ok)
	}
	floor := frac.Floor(a)
	answers := []list{floor.Abs}
	var text strings.Builder
	for _, c := range l {
		answers = append(answers, c.Num.Abs, c.Den)
		fmt.Fprintln(&text, c.Num.Neg, c.Num.Abs, c.Den)
	}
	fmt.Fprintln(&text, ok, divided, oks, frac.Right(a), frac.Sign(a), frac.Cmp(a, b), frac.Same(a, b), frac.Size(a), floor.Neg, floor.Abs)
	return text.String(), answers
}

// lendList hands out a with spare room behind it, whose words show who wrote there, or who read.
func lendList(a list, fill uint32) list { return behind(a, fill, fill, fill)[:len(a)] }

func lend(a fraction, fill uint32) fraction {
	return fraction{Num: number{Neg: a.Num.Neg, Abs: lendList(a.Num.Abs, fill)}, Den: lendList(a.Den, fill)}
}

func room(a list) list { return a[:cap(a)] }

func rooms(l ...list) string {
	var s []list
	for _, a := range l {
		s = append(s, room(a))
	}
	return fmt.Sprint(s)
}

func roomsOf(l ...fraction) string {
	var s []list
	for _, a := range l {
		s = append(s, a.Num.Abs, a.Den)
	}
	return rooms(s...)
}

func turnOver(a list) {
	for i := range room(a) {
		room(a)[i] = ^room(a)[i]
	}
}

func TestWhatIsHandedInIsLeft(t *testing.T) {
	for _, a := range fewer() {
		for _, b := range fewer() {
			want, _ := calls(a, b)
			for _, fill := range []uint32{0, 1, greatest} {
				x, y := lend(a, fill), lend(b, fill)
				before := roomsOf(x, y)
				// The same answers whatever lies behind the lengths, so that isn't read.
				if got, _ := calls(x, y); got != want {
					t.Fatalf("%v, %v with %d behind: %s; want %s", a, b, fill, got, want)
				}
				if after := roomsOf(x, y); after != before {
					t.Fatalf("%v, %v: made of them %s", a, b, after)
				}
			}
		}
	}
}

// The row that Max is told keeps its order, its fractions and what lies behind it.
func TestMaxLeavesItsRow(t *testing.T) {
	var backing []fraction
	for _, a := range several() {
		backing = append(backing, lend(a, 5))
	}
	top := over(plus(repeat(greatest, 90)...), 1)
	backing = append(backing, top, top)
	shape := func() string {
		return fmt.Sprint(backing, roomsOf(backing...))
	}
	before := shape()
	for n := range len(backing) - 1 {
		l := backing[:n]
		got := frac.Max(l...)
		if n > 0 {
			checkMax(t, l...)
		}
		if same(got, top) {
			t.Fatalf("%d: what lies behind the row was read", n)
		}
		if shape() != before {
			t.Fatalf("%d: the row is another one", n)
		}
		turnOver(got.Num.Abs)
		turnOver(got.Den)
		if shape() != before {
			t.Fatalf("%d: the answer shares memory with the row", n)
		}
	}
}

func TestAnswersAreNewMemory(t *testing.T) {
	for _, a := range fewer() {
		for _, b := range fewer() {
			x, y := lend(a, 5), lend(b, 5)
			want, first := calls(x, y)
			_, second := calls(x, y)
			before := roomsOf(x, y)
			for i, c := range first {
				others := slices.Concat(first[i+1:], second)
				rest := rooms(others...)
				turnOver(c)
				if roomsOf(x, y) != before {
					t.Fatalf("%v, %v: list %d shares memory with an argument", a, b, i)
				}
				if rooms(others...) != rest {
					t.Fatalf("%v, %v: list %d shares memory with another one", a, b, i)
				}
			}
			if got, _ := calls(x, y); got != want {
				t.Fatalf("%v, %v: %s, then %s", a, b, want, got)
			}
		}
	}
}

func TestOfAndRatioAnswerNewMemory(t *testing.T) {
	for _, n := range ints() {
		for _, d := range []int{1, -1, 6, n, 0} {
			a, b := frac.Of(n), frac.Of(n)
			x, _ := frac.Ratio(n, d)
			y, _ := frac.Ratio(n, d)
			none := frac.Max()
			for _, l := range []list{a.Num.Abs, a.Den, x.Num.Abs, x.Den, none.Num.Abs, none.Den} {
				before := roomsOf(b, y)
				turnOver(l)
				if after := roomsOf(b, y); after != before {
					t.Fatalf("%d, %d: %s, then %s", n, d, before, after)
				}
			}
			z, _ := frac.Ratio(n, d)
			if !same(b, frac.Of(n)) || !same(y, z) || !same(frac.Max(), nought()) {
				t.Fatalf("%d, %d: %v, %v", n, d, b, y)
			}
		}
	}
}

// What is answered is right where what is handed in is not, beside a false, too.
func TestAnswersAreRight(t *testing.T) {
	for _, a := range several() {
		for _, b := range fewer() {
			made, _ := frac.New(a.Num, b.Den)
			q, _ := frac.Quo(a, b)
			l := []fraction{made, frac.Norm(a), frac.Neg(a), frac.Abs(a), frac.Add(a, b), frac.Sub(a, b), frac.Mul(a, b), q, frac.Max(a, b)}
			for _, e := range exponents() {
				p, _ := frac.Pow(a, e)
				l = append(l, p)
			}
			for i, c := range l {
				if !right(c) || !frac.Right(c) {
					t.Fatalf("%v, %v: answer %d is %v", a, b, i, c)
				}
			}
		}
	}
}

// A million noughts at the end cost no more than to go over them, at either place.
func TestNoughtsAtTheEndAreCheap(t *testing.T) {
	end := repeat(0, 1000000)
	long := func(a fraction) fraction {
		return fraction{Num: number{Neg: a.Num.Neg, Abs: behind(a.Num.Abs, end...)}, Den: behind(a.Den, end...)}
	}
	for _, a := range []fraction{over(minus(0, 6), 4), over(plus(6), 0, 4), over(minus(7)), {}} {
		for _, b := range []fraction{fr("-2/3"), over(minus(0, 6), 4), over(minus(7))} {
			x, y, pair := value(a), value(b), fmt.Sprintf("%v and %v", a, b)
			l, m := long(a), long(b)
			check(t, "Add of "+pair, frac.Add(l, m), sum(x, y))
			check(t, "Mul of "+pair, frac.Mul(l, m), product(x, y))
			check(t, "Neg of "+pair, frac.Neg(l), negative(x))
			if got := frac.Cmp(l, m); got != x.Cmp(y) || frac.Right(l) || frac.Size(l) != frac.Size(a) {
				t.Fatalf("%s: %d", pair, got)
			}
		}
	}
}

func TestExamples(t *testing.T) {
	if got, ok := frac.Ratio(6, -4); !ok || !same(got, over(minus(3), 2)) {
		t.Error(got, ok)
	}
	if got, ok := frac.Quo(frac.Of(1), frac.Of(0)); ok || !same(got, over(plus(), 1)) {
		t.Error(got, ok)
	}
	if got, ok := frac.Pow(over(plus(2), 3), -2); !ok || !same(got, over(plus(9), 4)) {
		t.Error(got, ok)
	}
	if got, ok := frac.Pow(frac.Of(0), 0); !ok || !same(got, over(plus(1), 1)) {
		t.Error(got, ok)
	}
	if got := frac.Floor(over(minus(1), 2)); !sameNumber(got, minus(1)) {
		t.Error(got)
	}
	if got := frac.Size(over(plus(1), 2)); got != 3 {
		t.Error(got)
	}
}
