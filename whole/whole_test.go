package whole_test

import (
	"fmt"
	"math"
	"math/big"
	"slices"
	"strings"
	"testing"

	"retrospect/api"
	"retrospect/whole"
)

const (
	greatest = 0xffffffff
	// As the document names it; that api tells the same is tested in digits.
	maxDigits = 60
)

type (
	list   = []uint32
	number = whole.Whole
)

func plus(w ...uint32) number { return number{Abs: w} }

func minus(w ...uint32) number { return number{Neg: true, Abs: w} }

func repeat(w uint32, n int) list { return slices.Repeat(list{w}, n) }

func behind(a list, w ...uint32) list { return append(slices.Clone(a), w...) }

func rightList(a list) bool { return len(a) == 0 || a[len(a)-1] != 0 }

func right(a number) bool { return rightList(a.Abs) && !(a.Neg && len(a.Abs) == 0) }

// same tells whether two are the same to the word; nil and empty lists are one.
func same(a, b number) bool { return a.Neg == b.Neg && slices.Equal(a.Abs, b.Abs) }

func value(a number) *big.Int {
	n := new(big.Int)
	for i := len(a.Abs) - 1; i >= 0; i-- {
		n.Or(n.Lsh(n, 32), big.NewInt(int64(a.Abs[i])))
	}
	if a.Neg {
		n.Neg(n)
	}
	return n
}

// is tells whether a is the right number of the value n.
func is(a number, n *big.Int) bool { return right(a) && value(a).Cmp(n) == 0 }

func of(n *big.Int) number {
	a := number{Neg: n.Sign() < 0}
	for n = new(big.Int).Abs(n); n.Sign() > 0; n.Rsh(n, 32) {
		a.Abs = append(a.Abs, uint32(n.Uint64()))
	}
	return a
}

func big10(s string) *big.Int {
	n, ok := new(big.Int).SetString(s, 10)
	if !ok {
		panic(s + " is no number")
	}
	return n
}

func num(s string) number { return of(big10(s)) }

func sum(a, b *big.Int) *big.Int { return new(big.Int).Add(a, b) }

func diff(a, b *big.Int) *big.Int { return new(big.Int).Sub(a, b) }

func product(a, b *big.Int) *big.Int { return new(big.Int).Mul(a, b) }

// What fails on one of the lists without a pattern must fail again, so they are always the same ones.
func noise(n int) list {
	x := uint32(2463534242) + uint32(n)
	a := make(list, n)
	for i := range a {
		x ^= x << 13
		x ^= x >> 17
		x ^= x << 5
		a[i] = x
	}
	return a
}

// At these lists lengths, carries and ints end; some have noughts at the end, so they are not right.
func lists() []list {
	l := []list{
		nil, {}, {0}, {0, 0, 0},
		{1}, {1, 0, 0}, {2}, {3}, {7}, {7, 0}, {10}, {0xffff}, {0x10000}, {0x7fffffff}, {0x80000000}, {0x80000001}, {0xfffffffe}, {greatest}, {greatest, 0},
		{0, 1}, {1, 1}, {0, 1, 0}, {greatest, 1}, {greatest, 0x7fffffff}, {0, 0x80000000}, {0, 0x80000000, 0}, {1, 0x80000000}, {0xfffffffe, greatest}, {greatest, greatest}, {greatest, greatest, 0},
		{0, 0, 1}, {1, 0, 1}, {0, 0x80000000, 1}, {greatest, greatest, greatest}, {0, greatest, greatest}, {0, 5, 0, 7, 0}, {0, 0, 0, 1}, {0, 0, 0, 0, 0, 0, 0, 1},
	}
	for n := range 8 {
		l = append(l, noise(n))
	}
	return append(l, noise(20), repeat(greatest, 13))
}

// numbers are all lists without and with the sign, 0 too.
func numbers() []number {
	var l []number
	for _, a := range lists() {
		l = append(l, number{Abs: a}, number{Neg: true, Abs: a})
	}
	return l
}

func noughts() []number {
	return []number{{}, plus(), plus(0), plus(0, 0), {Neg: true}, minus([]uint32{}...), minus(0), minus(0, 0, 0), {Neg: true, Abs: repeat(0, 1000)}}
}

// ints are those at which words and ints end, and their neighbours.
func ints() []int {
	l := []int{math.MinInt, math.MinInt + 1, math.MinInt + 2, math.MaxInt - 2, math.MaxInt - 1, math.MaxInt}
	for _, n := range []int{0, 5, 100, 1 << 15, 1 << 16, 1 << 31, 1 << 32, 1 << 33, 1 << 48, 1 << 62, 1000000000000000000} {
		for gap := -2; gap <= 2; gap++ {
			l = append(l, n+gap, -n+gap)
		}
	}
	return l
}

func check(t *testing.T, call string, got number, want *big.Int) {
	t.Helper()
	if !is(got, want) {
		t.Fatalf("%s: %v; want %v, as %v", call, got, want, of(want))
	}
}

func TestNormTable(t *testing.T) {
	for i, c := range []struct{ a, want number }{
		{number{}, plus()},
		{plus(), plus()},
		{plus(0), plus()},
		{plus(0, 0), plus()},
		{number{Neg: true}, plus()},
		{minus(list{}...), plus()},
		{minus(0), plus()},
		{minus(0, 0, 0), plus()},
		{plus(7), plus(7)},
		{minus(7), minus(7)},
		{plus(7, 0), plus(7)},
		{minus(7, 0, 0), minus(7)},
		{plus(0, 7, 0), plus(0, 7)},
		{minus(0, 7, 0), minus(0, 7)},
		{minus(0, 0, 1), minus(0, 0, 1)},
		{plus(greatest, greatest), plus(greatest, greatest)},
	} {
		if got := whole.Norm(c.a); !same(got, c.want) {
			t.Errorf("%d: Norm(%v): %v; want %v", i, c.a, got, c.want)
		}
	}
}

func TestNormIsTheRightOne(t *testing.T) {
	for _, a := range numbers() {
		for n := range 4 {
			b := number{Neg: a.Neg, Abs: behind(a.Abs, repeat(0, n)...)}
			check(t, fmt.Sprintf("Norm(%v)", b), whole.Norm(b), value(a))
		}
	}
}

func TestOfTable(t *testing.T) {
	for _, c := range []struct {
		n    int
		want number
	}{
		{0, plus()},
		{1, plus(1)},
		{-1, minus(1)},
		{7, plus(7)},
		{-7, minus(7)},
		{4294967295, plus(greatest)},
		{-4294967295, minus(greatest)},
		{4294967296, plus(0, 1)},
		{-4294967296, minus(0, 1)},
		{-4294967297, minus(1, 1)},
		{9223372036854775807, plus(greatest, 0x7fffffff)},
		{-9223372036854775807, minus(greatest, 0x7fffffff)},
		{-9223372036854775808, minus(0, 0x80000000)},
	} {
		if got := whole.Of(c.n); !same(got, c.want) {
			t.Errorf("Of(%d): %v; want %v", c.n, got, c.want)
		}
	}
}

func TestOfAndIntOfIt(t *testing.T) {
	for _, n := range ints() {
		a := whole.Of(n)
		check(t, fmt.Sprintf("Of(%d)", n), a, big.NewInt(int64(n)))
		if got, ok := whole.Int(a); got != n || !ok {
			t.Errorf("Int(Of(%d)): %d, %v", n, got, ok)
		}
	}
}

func TestIntTable(t *testing.T) {
	for _, c := range []struct {
		a    number
		want int
		ok   bool
	}{
		{number{}, 0, true},
		{plus(0, 0, 0, 0), 0, true},
		{number{Neg: true}, 0, true},
		{minus(0, 0, 0, 0), 0, true},
		{plus(7), 7, true},
		{minus(7), -7, true},
		{plus(7, 0, 0, 0, 0), 7, true},
		{minus(7, 0, 0, 0, 0), -7, true},
		{minus(0x80000000), -2147483648, true},
		{plus(greatest), 4294967295, true},
		{minus(greatest), -4294967295, true},
		{plus(0, 1), 4294967296, true},
		{minus(0, 1), -4294967296, true},
		{plus(0xfffffffe, 0x7fffffff), math.MaxInt - 1, true},
		{plus(greatest, 0x7fffffff), math.MaxInt, true},
		{plus(greatest, 0x7fffffff, 0), math.MaxInt, true},
		{plus(0, 0x80000000), 0, false},
		{plus(0, 0x80000000, 0), 0, false},
		{plus(1, 0x80000000), 0, false},
		{minus(greatest, 0x7fffffff), math.MinInt + 1, true},
		{minus(0, 0x80000000), math.MinInt, true},
		{minus(0, 0x80000000, 0, 0), math.MinInt, true},
		{minus(1, 0x80000000), 0, false},
		{minus(1, 0x80000000, 0), 0, false},
		{minus(0, 0x80000001), 0, false},
		{plus(greatest, greatest), 0, false},
		{minus(greatest, greatest), 0, false},
		{plus(0, 0, 1), 0, false},
		{minus(0, 0, 1), 0, false},
		{plus(7, 0, 1), 0, false},
		{minus(7, 0, 1), 0, false},
		{minus(0, 0x80000000, 1), 0, false},
		{plus(noise(30)...), 0, false},
		{minus(noise(30)...), 0, false},
	} {
		if got, ok := whole.Int(c.a); got != c.want || ok != c.ok {
			t.Errorf("Int(%v): %d, %v; want %d, %v", c.a, got, ok, c.want, c.ok)
		}
	}
}

func TestIntIsTheNumber(t *testing.T) {
	for _, a := range numbers() {
		n := value(a)
		want := 0
		if n.IsInt64() {
			want = int(n.Int64())
		}
		if got, ok := whole.Int(a); got != want || ok != n.IsInt64() {
			t.Errorf("Int(%v): %d, %v; want %d, %v", a, got, ok, want, n.IsInt64())
		}
	}
}

func TestSign(t *testing.T) {
	for _, a := range noughts() {
		if got := whole.Sign(a); got != 0 {
			t.Errorf("Sign(%v): %d", a, got)
		}
	}
	for _, a := range append(numbers(), plus(0, 0, 1), minus(0, 0, 1), minus(1, 0, 0), plus(1, 0, 0)) {
		if got, want := whole.Sign(a), value(a).Sign(); got != want {
			t.Errorf("Sign(%v): %d; want %d", a, got, want)
		}
	}
}

func TestCmpTable(t *testing.T) {
	for _, c := range []struct {
		a, b string
		want int
	}{
		{"0", "0", 0}, {"0", "1", -1}, {"1", "0", 1}, {"0", "-1", 1}, {"-1", "0", -1},
		{"1", "2", -1}, {"2", "2", 0}, {"3", "2", 1},
		{"-1", "-2", 1}, {"-2", "-2", 0}, {"-3", "-2", -1},
		{"-5", "3", -1}, {"3", "-5", 1}, {"-3", "5", -1}, {"5", "-3", 1}, {"-5", "5", -1}, {"5", "-5", 1},
		{"4294967296", "4294967295", 1}, {"-4294967296", "-4294967295", -1},
		{"-18446744073709551616", "1", -1}, {"1", "-18446744073709551616", 1},
		{"-18446744073709551616", "-1", -1}, {"-1", "-18446744073709551616", 1},
	} {
		if got := whole.Cmp(num(c.a), num(c.b)); got != c.want {
			t.Errorf("Cmp(%s, %s): %d; want %d", c.a, c.b, got, c.want)
		}
	}
}

func TestCmpOfNoughts(t *testing.T) {
	for _, a := range noughts() {
		for _, b := range noughts() {
			if got := whole.Cmp(a, b); got != 0 {
				t.Errorf("Cmp(%v, %v): %d", a, b, got)
			}
		}
		if x, y := whole.Cmp(a, plus(1)), whole.Cmp(plus(1), a); x != -1 || y != 1 {
			t.Errorf("%v and 1: %d, %d", a, x, y)
		}
		if x, y := whole.Cmp(a, minus(1)), whole.Cmp(minus(1), a); x != 1 || y != -1 {
			t.Errorf("%v and -1: %d, %d", a, x, y)
		}
	}
}

// Of all pairs: numbers that are not right, too, and each with its own copy and its counterpart.
func TestPairsAreThoseOfTheValues(t *testing.T) {
	all := numbers()
	for _, a := range all {
		x := value(a)
		for _, b := range all {
			y := value(b)
			if got, want := whole.Cmp(a, b), x.Cmp(y); got != want {
				t.Fatalf("Cmp(%v, %v): %d; want %d", a, b, got, want)
			}
			pair := fmt.Sprintf("(%v, %v)", a, b)
			check(t, "Add"+pair, whole.Add(a, b), sum(x, y))
			check(t, "Sub"+pair, whole.Sub(a, b), diff(x, y))
			check(t, "Mul"+pair, whole.Mul(a, b), product(x, y))
			checkFloor(t, a, b)
		}
	}
}

func TestNeg(t *testing.T) {
	for i, c := range []struct{ a, want number }{
		{number{}, plus()},
		{plus(0, 0), plus()},
		{number{Neg: true}, plus()},
		{minus(0), plus()},
		{plus(7), minus(7)},
		{minus(7), plus(7)},
		{plus(7, 0), minus(7)},
		{minus(0, 7, 0), plus(0, 7)},
		{minus(0, 0x80000000), plus(0, 0x80000000)},
	} {
		if got := whole.Neg(c.a); !same(got, c.want) {
			t.Errorf("%d: Neg(%v): %v; want %v", i, c.a, got, c.want)
		}
	}
	for _, a := range numbers() {
		check(t, fmt.Sprintf("Neg(%v)", a), whole.Neg(a), new(big.Int).Neg(value(a)))
		check(t, fmt.Sprintf("Neg(Neg(%v))", a), whole.Neg(whole.Neg(a)), value(a))
	}
}

func TestAddAndSubTable(t *testing.T) {
	for _, c := range []struct{ a, b, sum, diff string }{
		{"0", "0", "0", "0"},
		{"0", "5", "5", "-5"},
		{"5", "0", "5", "5"},
		{"0", "-5", "-5", "5"},
		{"-5", "0", "-5", "-5"},
		{"2", "3", "5", "-1"},
		{"3", "2", "5", "1"},
		{"-2", "-3", "-5", "1"},
		{"-3", "-2", "-5", "-1"},
		{"2", "-3", "-1", "5"},
		{"3", "-2", "1", "5"},
		{"-2", "3", "1", "-5"},
		{"-3", "2", "-1", "-5"},
		{"7", "7", "14", "0"},
		{"7", "-7", "0", "14"},
		{"-7", "7", "0", "-14"},
		{"-7", "-7", "-14", "0"},
		{"4294967295", "1", "4294967296", "4294967294"},
		{"-4294967295", "-1", "-4294967296", "-4294967294"},
		{"4294967296", "-1", "4294967295", "4294967297"},
		{"-4294967296", "1", "-4294967295", "-4294967297"},
		{"1", "4294967296", "4294967297", "-4294967295"},
		{"18446744073709551615", "1", "18446744073709551616", "18446744073709551614"},
		{"-18446744073709551616", "18446744073709551616", "0", "-36893488147419103232"},
		{"-18446744073709551615", "18446744073709551616", "1", "-36893488147419103231"},
		{"18446744073709551615", "-18446744073709551616", "-1", "36893488147419103231"},
		{"9223372036854775807", "1", "9223372036854775808", "9223372036854775806"},
		{"-9223372036854775808", "-1", "-9223372036854775809", "-9223372036854775807"},
	} {
		if got := whole.Add(num(c.a), num(c.b)); !same(got, num(c.sum)) {
			t.Errorf("Add(%s, %s): %v; want %s", c.a, c.b, got, c.sum)
		}
		if got := whole.Sub(num(c.a), num(c.b)); !same(got, num(c.diff)) {
			t.Errorf("Sub(%s, %s): %v; want %s", c.a, c.b, got, c.diff)
		}
	}
}

func TestMulTable(t *testing.T) {
	for _, c := range []struct{ a, b, want string }{
		{"0", "0", "0"},
		{"0", "5", "0"},
		{"-5", "0", "0"},
		{"0", "-5", "0"},
		{"1", "5", "5"},
		{"-1", "5", "-5"},
		{"5", "-1", "-5"},
		{"-1", "-5", "5"},
		{"-1", "-1", "1"},
		{"6", "-7", "-42"},
		{"-6", "-7", "42"},
		{"4294967295", "-4294967295", "-18446744065119617025"},
		{"-4294967296", "-4294967296", "18446744073709551616"},
		{"-4294967296", "4294967295", "-18446744069414584320"},
	} {
		if got := whole.Mul(num(c.a), num(c.b)); !same(got, num(c.want)) {
			t.Errorf("Mul(%s, %s): %v; want %s", c.a, c.b, got, c.want)
		}
	}
}

// A nought has no sign, whichever it was handed in with, and gives none to what it is reckoned with.
func TestReckoningWithNoughts(t *testing.T) {
	for _, zero := range noughts() {
		for _, a := range numbers() {
			x, negX, pair := value(a), new(big.Int).Neg(value(a)), fmt.Sprintf(" of %v and %v", zero, a)
			check(t, "Add"+pair, whole.Add(zero, a), x)
			check(t, "Add turned"+pair, whole.Add(a, zero), x)
			check(t, "Sub"+pair, whole.Sub(zero, a), negX)
			check(t, "Sub turned"+pair, whole.Sub(a, zero), x)
			check(t, "Mul"+pair, whole.Mul(zero, a), new(big.Int))
			check(t, "Mul turned"+pair, whole.Mul(a, zero), new(big.Int))
		}
	}
}

func TestFloorTable(t *testing.T) {
	for _, c := range []struct{ a, b, q, r string }{
		{"7", "2", "3", "1"},
		{"-7", "2", "-4", "1"},
		{"7", "-2", "-4", "-1"},
		{"-7", "-2", "3", "-1"},
		{"6", "2", "3", "0"},
		{"-6", "2", "-3", "0"},
		{"6", "-2", "-3", "0"},
		{"-6", "-2", "3", "0"},
		{"8", "5", "1", "3"},
		{"-8", "5", "-2", "2"},
		{"8", "-5", "-2", "-2"},
		{"-8", "-5", "1", "-3"},
		{"0", "5", "0", "0"},
		{"0", "-5", "0", "0"},
		{"5", "5", "1", "0"},
		{"-5", "5", "-1", "0"},
		{"5", "-5", "-1", "0"},
		{"-5", "-5", "1", "0"},
		{"3", "5", "0", "3"},
		{"-3", "5", "-1", "2"},
		{"3", "-5", "-1", "-2"},
		{"-3", "-5", "0", "-3"},
		{"9", "1", "9", "0"},
		{"-9", "1", "-9", "0"},
		{"9", "-1", "-9", "0"},
		{"-9", "-1", "9", "0"},
		{"1", "18446744073709551616", "0", "1"},
		{"-1", "18446744073709551616", "-1", "18446744073709551615"},
		{"1", "-18446744073709551616", "-1", "-18446744073709551615"},
		{"-1", "-18446744073709551616", "0", "-1"},
		{"4294967295", "4294967296", "0", "4294967295"},
		{"-4294967295", "4294967296", "-1", "1"},
		{"-18446744073709551615", "4294967296", "-4294967296", "1"},
		{"18446744073709551615", "-4294967296", "-4294967296", "-1"},
		{"-9223372036854775808", "-1", "9223372036854775808", "0"},
		{"-340282366920938463463374607431768211457", "18446744073709551616", "-18446744073709551617", "18446744073709551615"},
		{"340282366920938463463374607431768211457", "-18446744073709551616", "-18446744073709551617", "-18446744073709551615"},
		{"340282366920938463463374607431768211457", "18446744073709551616", "18446744073709551616", "1"},
		{"-340282366920938463463374607431768211457", "-18446744073709551616", "18446744073709551616", "-1"},
	} {
		if q, r, ok := whole.Floor(num(c.a), num(c.b)); !ok || !same(q, num(c.q)) || !same(r, num(c.r)) {
			t.Errorf("Floor(%s, %s): %v, %v, %v; want %s, %s", c.a, c.b, q, r, ok, c.q, c.r)
		}
	}
}

// checkFloor asks for what makes the floor and what is left the only ones: they make a together, and what is left is on b's side of 0, nearer to 0 than b.
func checkFloor(t *testing.T, a, b number) {
	t.Helper()
	q, r, ok := whole.Floor(a, b)
	x, y := value(a), value(b)
	if y.Sign() == 0 {
		if ok || !same(q, number{}) || !same(r, number{}) {
			t.Fatalf("Floor(%v, %v): %v, %v, %v; want 0, 0, false", a, b, q, r, ok)
		}
		return
	}
	left := value(r)
	if !ok || !right(q) || !right(r) || sum(product(value(q), y), left).Cmp(x) != 0 || left.CmpAbs(y) >= 0 || left.Sign() == -y.Sign() {
		t.Fatalf("Floor(%v, %v): %v, %v, %v", a, b, q, r, ok)
	}
}

func TestFloorByNoughtIsNone(t *testing.T) {
	for _, b := range noughts() {
		for _, a := range append(numbers(), noughts()...) {
			checkFloor(t, a, b)
		}
	}
}

func TestFloorOfProductsAndTheirNeighbours(t *testing.T) {
	one := big.NewInt(1)
	for _, b := range numbers() {
		for _, c := range []list{{1}, {2}, {greatest}, {0, 1}, {greatest, greatest}, noise(3), noise(9)} {
			for _, neg := range []bool{false, true} {
				p := product(value(b), value(number{neg, c}))
				checkFloor(t, of(p), b)
				checkFloor(t, of(sum(p, one)), b)
				checkFloor(t, of(diff(p, one)), b)
			}
		}
	}
}

// floorOf is the floor by the machine's own division, of a b that isn't 0.
func floorOf(a, b int) (q, r int) {
	q, r = a/b, a%b
	if r != 0 && (r < 0) != (b < 0) {
		return q - 1, r + b
	}
	return q, r
}

func TestSmallNumbersAreThoseOfTheMachine(t *testing.T) {
	for a := -40; a <= 40; a++ {
		for b := -40; b <= 40; b++ {
			x, y := whole.Of(a), whole.Of(b)
			checkInt(t, "Add", a, b, whole.Add(x, y), a+b)
			checkInt(t, "Sub", a, b, whole.Sub(x, y), a-b)
			checkInt(t, "Mul", a, b, whole.Mul(x, y), a*b)
			if b == 0 {
				continue
			}
			q, r, ok := whole.Floor(x, y)
			wantq, wantr := floorOf(a, b)
			checkInt(t, "Floor", a, b, q, wantq)
			checkInt(t, "what is left by Floor", a, b, r, wantr)
			if !ok {
				t.Errorf("Floor(%d, %d): false", a, b)
			}
		}
	}
}

func checkInt(t *testing.T, call string, a, b int, got number, want int) {
	t.Helper()
	if n, ok := whole.Int(got); n != want || !ok || !right(got) {
		t.Fatalf("%s(%d, %d): %v; want %d", call, a, b, got, want)
	}
}

// As far as these go, and beyond.
func TestIntsAreReckonedWith(t *testing.T) {
	for _, a := range ints() {
		for _, b := range ints() {
			x, y, pair := big.NewInt(int64(a)), big.NewInt(int64(b)), fmt.Sprintf("(%d, %d)", a, b)
			check(t, "Add"+pair, whole.Add(whole.Of(a), whole.Of(b)), sum(x, y))
			check(t, "Sub"+pair, whole.Sub(whole.Of(a), whole.Of(b)), diff(x, y))
			check(t, "Mul"+pair, whole.Mul(whole.Of(a), whole.Of(b)), product(x, y))
			if got, want := whole.Cmp(whole.Of(a), whole.Of(b)), x.Cmp(y); got != want {
				t.Fatalf("Cmp%s: %d; want %d", pair, got, want)
			}
			checkFloor(t, whole.Of(a), whole.Of(b))
		}
	}
}

// Of one number twice, the list being the same one.
func TestReckoningWithItself(t *testing.T) {
	for _, a := range numbers() {
		x, twice := value(a), fmt.Sprintf(" of %v twice", a)
		check(t, "Add"+twice, whole.Add(a, a), sum(x, x))
		check(t, "Sub"+twice, whole.Sub(a, a), new(big.Int))
		check(t, "Mul"+twice, whole.Mul(a, a), product(x, x))
		checkFloor(t, a, a)
		if got := whole.Cmp(a, a); got != 0 {
			t.Errorf("Cmp%s: %d", twice, got)
		}
		counterpart := number{!a.Neg, a.Abs}
		check(t, "Add with the counterpart"+twice, whole.Add(a, counterpart), new(big.Int))
		check(t, "Sub with the counterpart"+twice, whole.Sub(a, counterpart), sum(x, x))
		checkFloor(t, a, counterpart)
	}
}

func TestTextTable(t *testing.T) {
	for _, c := range []struct {
		a    number
		want string
	}{
		{number{}, "0"},
		{plus(0, 0), "0"},
		{number{Neg: true}, "0"},
		{minus(0), "0"},
		{minus(0, 0, 0), "0"},
		{plus(7), "7"},
		{minus(7), "-7"},
		{minus(7, 0, 0), "-7"},
		{minus(10), "-10"},
		{plus(1000000000), "1000000000"},
		{minus(1000000000), "-1000000000"},
		{minus(greatest), "-4294967295"},
		{plus(0, 1), "4294967296"},
		{minus(0, 1), "-4294967296"},
		{minus(0, 0x80000000), "-9223372036854775808"},
		{minus(0, 0, 1, 0), "-18446744073709551616"},
	} {
		if got := whole.Text(c.a); got != c.want {
			t.Errorf("Text(%v): %q; want %q", c.a, got, c.want)
		}
	}
}

func TestTextIsTheNumber(t *testing.T) {
	for _, a := range append(numbers(), plus(noise(128)...), minus(noise(129)...)) {
		if got, want := whole.Text(a), value(a).String(); got != want {
			t.Errorf("Text(%v): %q; want %q", a, got, want)
		}
	}
}

// row is digits without a 0 ahead and without a pattern.
func row(n int) string {
	return strings.Repeat("31415926535897932384626433832795", n/32+1)[:n]
}

func checkRead(t *testing.T, s string, want number) {
	t.Helper()
	if got, fault := whole.Read(s); !same(got, want) || fault != (api.Fault{}) {
		t.Fatalf("Read(%q): %v, %v; want %v", s, got, fault, want)
	}
}

func checkRefused(t *testing.T, s string, place int) {
	t.Helper()
	if got, fault := whole.Read(s); !same(got, number{}) || fault != (api.Fault{Kind: 1, At: place}) {
		t.Fatalf("Read(%q): %v, %v; want Parse at %d", s, got, fault, place)
	}
}

func TestReadTable(t *testing.T) {
	for _, c := range []struct {
		s    string
		want number
	}{
		{"0", plus()},
		{"00", plus()},
		{"-0", plus()},
		{"-000000", plus()},
		{"1", plus(1)},
		{"-1", minus(1)},
		{"7", plus(7)},
		{"007", plus(7)},
		{"-7", minus(7)},
		{"-007", minus(7)},
		{"12", plus(12)},
		{"-12", minus(12)},
		{"-10", minus(10)},
		{"4294967295", plus(greatest)},
		{"-4294967295", minus(greatest)},
		{"4294967296", plus(0, 1)},
		{"-4294967296", minus(0, 1)},
		{"-09223372036854775808", minus(0, 0x80000000)},
		{"-18446744073709551616", minus(0, 0, 1)},
		{"340282366920938463463374607431768211456", plus(0, 0, 0, 0, 1)},
	} {
		checkRead(t, c.s, c.want)
	}
}

func TestReadRefusedTable(t *testing.T) {
	full := row(maxDigits)
	for _, c := range []struct {
		s     string
		place int
	}{
		{"", 0},
		{"-", 1},
		{"--", 1},
		{"--1", 1},
		{"---", 1},
		{"+", 0},
		{"+1", 0},
		{"-+1", 1},
		{"+-1", 0},
		{"1-", 1},
		{"-1-", 2},
		{"1-2", 1},
		{"-1-2", 2},
		{"0-", 1},
		{"-0-", 2},
		{"x", 0},
		{"-x", 1},
		{"x12", 0},
		{"-x12", 1},
		{"1x2", 1},
		{"-1x2", 2},
		{"12x", 2},
		{"-12x", 3},
		{"1xx", 1},
		{"-1xx", 2},
		{"-x1x", 1},
		{" 1", 0},
		{" -1", 0},
		{"- 1", 1},
		{"-1 ", 2},
		{"1\n", 1},
		{"-\x00", 1},
		{"1.5", 1},
		{"-1.5", 2},
		{"-1/2", 2},
		{"-1e3", 2},
		{"-0x1", 2},
		{"-/", 1},
		{"-:", 1},
		{"-9:", 2},
		{"\xff-1", 0},
		{"-\xff", 1},
		{"−1", 0},
		{"\u20131", 0},
		{"-١", 1},
		{full + "0", maxDigits},
		{full + "x", maxDigits},
		{"-" + full + "0", maxDigits + 1},
		{"-" + full + "x", maxDigits + 1},
		{full[1:] + "x", maxDigits - 1},
		{full[1:] + "xx", maxDigits - 1},
		{"-" + full[1:] + "x", maxDigits},
		{"-" + full[1:] + "xx", maxDigits},
		{"-" + full[1:] + "x0", maxDigits},
		{"--" + full, 1},
		{full + "-", maxDigits},
		{"-" + strings.Repeat("0", maxDigits+1), maxDigits + 1},
		{strings.Repeat("-", maxDigits+5), 1},
		{row(1 << 20), maxDigits},
		{"-" + row(1<<20), maxDigits + 1},
	} {
		checkRefused(t, c.s, c.place)
	}
}

func TestReadOfAsManyDigitsAsMayBe(t *testing.T) {
	for n := 1; n <= maxDigits+20; n++ {
		for _, s := range []string{row(n), strings.Repeat("9", n), strings.Repeat("0", n), "1" + strings.Repeat("0", n-1), strings.Repeat("0", n-1) + "1", strings.Repeat("0", n/2) + row(n-n/2)} {
			if n > maxDigits {
				checkRefused(t, s, maxDigits)
				checkRefused(t, "-"+s, maxDigits+1)
				continue
			}
			checkRead(t, s, num(s))
			checkRead(t, "-"+s, num("-"+s))
		}
	}
}

// Each byte at each place, the sign's too: whether it is read, and where it is refused, if it isn't.
func TestReadOfEachByte(t *testing.T) {
	for _, sign := range []string{"", "-"} {
		for _, n := range []int{1, 2, 3, 10, 20, 59, 60} {
			for place := range n {
				for c := range 256 {
					b := []byte(sign + row(n))
					b[len(sign)+place] = byte(c)
					s := string(b)
					switch digit := c >= 48 && c <= 57; {
					case digit || sign == "" && place == 0 && c == 45 && n > 1:
						checkRead(t, s, num(s))
					case sign == "" && place == 0 && c == 45:
						checkRefused(t, s, 1)
					default:
						checkRefused(t, s, len(sign)+place)
					}
				}
			}
		}
	}
}

func TestReadTellsTheFirstOfTwo(t *testing.T) {
	for _, n := range []int{2, 3, 20, 60, 61, 62, 64} {
		for first := range n {
			for second := first + 1; second < n; second++ {
				b := []byte(row(n))
				b[first], b[second] = ':', '-'
				checkRefused(t, string(b), min(first, maxDigits))
				checkRefused(t, "-"+string(b), 1+min(first, maxDigits))
			}
		}
	}
}

func TestWhatIsWrittenIsReadAsItWas(t *testing.T) {
	most := new(big.Int).Exp(big.NewInt(10), big.NewInt(maxDigits), nil)
	greatestRead := of(diff(most, big.NewInt(1)))
	for _, a := range append(numbers(), greatestRead, whole.Neg(greatestRead), of(most), whole.Neg(of(most))) {
		s := whole.Text(a)
		if value(a).CmpAbs(most) < 0 {
			checkRead(t, s, whole.Norm(a))
			continue
		}
		place := maxDigits
		if a.Neg {
			place++
		}
		checkRefused(t, s, place)
	}
}

func TestWhatIsReadIsWrittenAsItWas(t *testing.T) {
	for n := 1; n <= maxDigits; n++ {
		for ahead := 0; ahead <= maxDigits-n; ahead += 7 {
			for _, sign := range []string{"", "-"} {
				a, _ := whole.Read(sign + strings.Repeat("0", ahead) + row(n))
				if got, want := whole.Text(a), sign+row(n); got != want {
					t.Fatalf("%d noughts, then %s: %q", ahead, want, got)
				}
			}
		}
	}
}

// calls are all calls that are told whole numbers; of each what it answers, written out, and the lists of its answers.
func calls(a, b number) (string, []number) {
	n, ok := whole.Int(a)
	q, r, divided := whole.Floor(a, b)
	l := []number{whole.Norm(a), whole.Neg(a), whole.Add(a, b), whole.Sub(a, b), whole.Mul(a, b), q, r}
	return fmt.Sprint(n, ok, whole.Sign(a), whole.Cmp(a, b), whole.Text(a), divided, texts(l)), l
}

func texts(l []number) []string {
	var s []string
	for _, a := range l {
		s = append(s, fmt.Sprint(a.Neg, a.Abs))
	}
	return s
}

// lend hands out a with spare room behind it, whose words show who wrote there, or who read.
func lend(a number, fill uint32) number {
	return number{a.Neg, behind(a.Abs, fill, fill, fill)[:len(a.Abs)]}
}

func room(a number) list { return a.Abs[:cap(a.Abs)] }

func rooms(l []number) string {
	var s []list
	for _, a := range l {
		s = append(s, room(a))
	}
	return fmt.Sprint(s)
}

func turnOver(a number) {
	for i := range room(a) {
		room(a)[i] = ^room(a)[i]
	}
}

// fewer are enough of the numbers to be told in pairs, call by call: of each kind some, with both signs.
func fewer() []number {
	return []number{
		{}, {Neg: true}, plus(0, 0), minus(0), plus(1), minus(1), plus(7, 0), minus(7, 0, 0), plus(greatest), minus(greatest), plus(0, 1), minus(0, 1), minus(greatest, greatest),
		plus(1, 2, 3), minus(1, 2, 3), plus(1, 2, 3, 0), plus(noise(6)...), minus(noise(6)...), minus(noise(9)...), plus(repeat(greatest, 5)...),
	}
}

func TestWhatIsHandedInIsLeft(t *testing.T) {
	for _, a := range fewer() {
		for _, b := range fewer() {
			want, _ := calls(a, b)
			for _, fill := range []uint32{0, 1, greatest} {
				x, y := lend(a, fill), lend(b, fill)
				beforeX, beforeY := slices.Clone(room(x)), slices.Clone(room(y))
				// The same answers whatever lies behind the length, so that isn't read.
				if got, _ := calls(x, y); got != want {
					t.Fatalf("%v, %v with %d behind: %s; want %s", a, b, fill, got, want)
				}
				if !slices.Equal(room(x), beforeX) || !slices.Equal(room(y), beforeY) {
					t.Fatalf("%v, %v: made of them %v, %v", a, b, room(x), room(y))
				}
			}
		}
	}
}

func TestAnswersAreNewMemory(t *testing.T) {
	for _, a := range fewer() {
		for _, b := range fewer() {
			x, y := lend(a, 5), lend(b, 5)
			want, first := calls(x, y)
			_, second := calls(x, y)
			beforeX, beforeY := slices.Clone(room(x)), slices.Clone(room(y))
			for i, c := range first {
				others := slices.Concat(first[i+1:], second)
				before := rooms(others)
				turnOver(c)
				if !slices.Equal(room(x), beforeX) || !slices.Equal(room(y), beforeY) {
					t.Fatalf("%v, %v: answer %d shares memory with an argument", a, b, i)
				}
				if rooms(others) != before {
					t.Fatalf("%v, %v: answer %d shares memory with another one", a, b, i)
				}
			}
			if got, _ := calls(x, y); got != want {
				t.Fatalf("%v, %v: %s, then %s", a, b, want, got)
			}
		}
	}
}

func TestOfAndReadAnswerNewMemory(t *testing.T) {
	for _, n := range ints() {
		first, second := whole.Of(n), whole.Of(n)
		turnOver(first)
		if third := whole.Of(n); !is(second, big.NewInt(int64(n))) || !same(second, third) {
			t.Errorf("Of(%d): %v, %v", n, second, third)
		}
	}
	for _, s := range []string{"0", "-0", "7", "-7", "4294967296", "-18446744073709551616", row(60), "-" + row(60)} {
		first, _ := whole.Read(s)
		second, _ := whole.Read(s)
		turnOver(first)
		if third, _ := whole.Read(s); !is(second, big10(s)) || !same(second, third) {
			t.Errorf("Read(%q): %v, %v", s, second, third)
		}
	}
}

func TestAnswersAreRight(t *testing.T) {
	for _, a := range fewer() {
		for _, b := range fewer() {
			_, answers := calls(a, b)
			for i, c := range answers {
				if !right(c) {
					t.Fatalf("%v, %v: answer %d is %v", a, b, i, c)
				}
			}
		}
	}
}

// A million noughts at the end cost no more than to go over them, at either place.
func TestNoughtsAtTheEndAreCheap(t *testing.T) {
	long := behind(list{0, 7}, repeat(0, 1000000)...)
	for _, a := range []number{{false, long}, {true, long}, {true, repeat(0, 1000000)}} {
		for _, b := range []number{a, minus(3), plus(3), {true, long}} {
			got, _ := calls(a, b)
			want, _ := calls(whole.Norm(a), whole.Norm(b))
			if got != want {
				t.Fatalf("%.40s; want %.40s", got, want)
			}
		}
	}
}

func TestExamples(t *testing.T) {
	if q, r, ok := whole.Floor(whole.Of(-7), whole.Of(2)); !same(q, minus(4)) || !same(r, plus(1)) || !ok {
		t.Error(q, r, ok)
	}
	if q, r, ok := whole.Floor(whole.Of(7), whole.Of(-2)); !same(q, minus(4)) || !same(r, minus(1)) || !ok {
		t.Error(q, r, ok)
	}
	checkRead(t, "-12", minus(12))
	checkRefused(t, "-", 1)
	checkRead(t, "-0", plus())
}
