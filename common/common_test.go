package common

import (
	"math/big"
	"slices"
	"testing"

	"retrospect/nat"
	"retrospect/prod"
	"retrospect/quot"
)

const greatest = 1<<wordBits - 1

type list = []uint32

// At these lists lengths and ways change; some have noughts at the end, so they are not right.
func edges() []list {
	return []list{
		nil, {}, {0}, {0, 0, 0},
		{1}, {1, 0, 0}, {2}, {3}, {3, 0}, {4}, {6}, {12}, {18}, {0xffff}, {0x10000}, {0x7fffffff}, {0x80000000}, {0xfffffffe}, {greatest}, {greatest, 0},
		{0, 1}, {1, 1}, {0, 1, 0}, {0, 0x80000000}, {greatest, 0x7fffffff}, {0, greatest}, {0xfffffffe, greatest}, {greatest, greatest}, {greatest, greatest, 0, 0},
		{0, 0, 1}, {1, 0, 1}, {0, 0, 0x80000000}, {1, 0, 0x80000000}, {0, 0, 3}, {greatest, 0, greatest}, {greatest, greatest, greatest}, {0, greatest, greatest},
		{0, 6, 0, 18, 0}, {0, 0, 0, 1}, {0, 0, 0, 12}, {greatest, greatest, greatest, greatest}, {1, 0, 0, 0x20000000},
	}
}

// What fails on one of the lists without a pattern must fail again, so they are always the same ones.
func noise(n int) list {
	x := uint32(2463534242) + uint32(n)
	a := make(list, n)
	for i := range a {
		x ^= x << 13
		x ^= x >> 17
		x ^= x << 5
		a[i] = x
	}
	return a
}

func lists() []list {
	l := edges()
	for n := range 9 {
		l = append(l, noise(n))
	}
	return l
}

func factors() []list {
	return slices.DeleteFunc(lists(), nat.Zero)
}

func noughts() []list {
	return []list{nil, {}, {0}, {0, 0}, repeat(0, 1000)}
}

func value(a list) *big.Int {
	n := new(big.Int)
	for i := len(a) - 1; i >= 0; i-- {
		n.Or(n.Lsh(n, wordBits), big.NewInt(int64(a[i])))
	}
	return n
}

func right(a list) bool { return len(a) == 0 || a[len(a)-1] != 0 }

// is tells whether a is the right list of n.
func is(a list, n *big.Int) bool { return right(a) && value(a).Cmp(n) == 0 }

func behind(a list, w ...uint32) list { return append(slices.Clone(a), w...) }

func repeat(w uint32, n int) list { return slices.Repeat(list{w}, n) }

// power is 2^n times a.
func power(a uint32, n int) list {
	return prod.Mul(list{a}, behind(repeat(0, n/wordBits), 1<<(n%wordBits)))
}

// fibonacci tells two numbers of about so many words that follow one another in Fibonacci's row: on no other numbers Euclid's way is as long.
func fibonacci(words int) (a, b list) {
	a, b = list{1}, list{1}
	for len(a) <= words {
		a, b = nat.Add(a, b), a
	}
	return a, b
}

func TestGcdTable(t *testing.T) {
	for i, c := range []struct{ a, b, want list }{
		{nil, nil, nil},
		{list{}, list{0}, nil},
		{list{0, 0}, list{0, 0, 0}, nil},
		{nil, list{1}, list{1}},
		{list{0, 0}, list{1, 0}, list{1}},
		{nil, list{5}, list{5}},
		{list{0}, list{7, 8}, list{7, 8}},
		{list{}, list{7, 8, 9, 0}, list{7, 8, 9}},
		{list{1}, list{1}, list{1}},
		{list{1, 0, 0}, list{1}, list{1}},
		{list{1}, list{6}, list{1}},
		{list{1}, list{0, 0, 0, 6}, list{1}},
		{list{12}, list{18}, list{6}},
		{list{12, 0, 0}, list{18, 0}, list{6}},
		{list{6}, list{18}, list{6}},
		{list{7}, list{7}, list{7}},
		{list{7, 8, 9}, list{7, 8, 9, 0}, list{7, 8, 9}},
		{list{8}, list{9}, list{1}},
		{list{35}, list{64}, list{1}},
		{list{1000000007}, list{998244353}, list{1}},
		{list{8}, list{32}, list{8}},
		{list{24}, list{32}, list{8}},
		{list{24}, list{40}, list{8}},
		{list{0x80000000}, list{0, 1}, list{0x80000000}},
		{list{0, 1}, list{0, 0, 1}, list{0, 1}},
		{list{0, 3}, list{0, 0, 1}, list{0, 1}},
		{list{0, 3}, list{0, 0, 5}, list{0, 1}},
		{list{0, 0, 0, 4}, list{0, 0, 0, 6}, list{0, 0, 0, 2}},
		{list{0, 0, 0, 1}, list{0, 0, 3}, list{0, 0, 1}},
		{list{0, 0, 0, 0, 1}, list{1, 0, 0, 1}, list{1}},
		{list{greatest}, list{0, 1}, list{1}},
		{list{greatest}, list{0xfffffffe}, list{1}},
		{list{greatest}, list{greatest, greatest}, list{greatest}},
		{list{greatest, greatest}, list{greatest, greatest, greatest}, list{greatest}},
		{list{greatest, greatest, greatest, greatest}, list{greatest, greatest, greatest, greatest, greatest, greatest}, list{greatest, greatest}},
		{list{greatest, greatest, greatest}, list{0, 0, 0, 1}, list{1}},
		{list{0, 0, 0, 1}, list{0, 0, 0, 1, 0}, list{0, 0, 0, 1}},
		{list{5, 0, 0, 5}, list{7, 0, 0, 7}, list{1, 0, 0, 1}},
		{list{2, 0, 0, 2}, list{6, 0, 0, 6}, list{2, 0, 0, 2}},
		{list{2, 0, 0, 1}, list{1, 0, 0, 1}, list{1}},
		{repeat(greatest, 120), repeat(greatest, 80), repeat(greatest, 40)},
		{repeat(greatest, 121), repeat(greatest, 120), list{greatest}},
		{power(15, 3000), power(21, 2000), power(3, 2000)},
		{power(15, 3000), list{21}, list{3}},
		{power(16, 3000), list{21}, list{1}},
	} {
		if got := Gcd(c.a, c.b); !slices.Equal(got, c.want) {
			t.Errorf("%d: Gcd(%d, %d): %d; want %d", i, c.a, c.b, got, c.want)
		}
		if got := Gcd(c.b, c.a); !slices.Equal(got, c.want) {
			t.Errorf("%d: Gcd(%d, %d): %d; want %d", i, c.b, c.a, got, c.want)
		}
	}
}

func checkGcd(t *testing.T, a, b list) {
	t.Helper()
	want := new(big.Int).GCD(nil, nil, value(a), value(b))
	if got := Gcd(a, b); !is(got, want) {
		t.Fatalf("Gcd(%d, %d): %d; want %v", a, b, got, want)
	}
}

func TestGcdIsTheCommonDivisor(t *testing.T) {
	l := append(lists(), noise(40), noise(41), noise(100))
	for _, a := range l {
		for _, b := range l {
			checkGcd(t, a, b)
			for _, c := range edges() {
				checkGcd(t, prod.Mul(a, c), prod.Mul(b, c))
			}
		}
	}
}

// Of small numbers each divisor can be asked, so that nothing is believed of the way.
func TestGcdOfSmallNumbers(t *testing.T) {
	const n = 120
	divides := func(d, a uint64) bool { return d == 0 && a == 0 || d != 0 && a%d == 0 }
	for a := range uint64(n) {
		for b := range uint64(n) {
			g, ok := nat.Small(Gcd(nat.Of(a), nat.Of(b)))
			if !ok || !divides(g, a) || !divides(g, b) {
				t.Fatalf("Gcd(%d, %d): %d, %v", a, b, g, ok)
			}
			for d := range uint64(n) {
				if divides(d, a) && divides(d, b) && !divides(d, g) {
					t.Fatalf("Gcd(%d, %d): %d; %d divides both", a, b, g, d)
				}
			}
		}
	}
}

// patterns are all lists of n words, each of them one of those at which the heads of two numbers tell little.
func patterns(n int) []list {
	if n == 0 {
		return []list{nil}
	}
	var l []list
	for _, a := range patterns(n - 1) {
		for _, w := range []uint32{0, 1, 0x80000000, 0xfffffffe, greatest} {
			l = append(l, behind(a, w))
		}
	}
	return l
}

func TestGcdWhereHeadsTellLittle(t *testing.T) {
	for _, b := range patterns(3) {
		for _, a := range patterns(4) {
			checkGcd(t, a, b)
		}
	}
	// Just ahead of products the next word decides about a quotient.
	for _, b := range patterns(4) {
		for _, q := range []list{{1}, {2}, {greatest}, {1, 1}, {greatest, greatest}} {
			product := prod.Mul(b, q)
			for _, gap := range []list{nil, {1}, {greatest}, {0, 1}, {0, 0, 1}} {
				checkGcd(t, nat.Add(product, gap), b)
				if less, ok := nat.Sub(product, gap); ok {
					checkGcd(t, less, b)
				}
			}
		}
	}
}

// Where two numbers have the same highest words, or hardly other ones, the lower ones decide about the first step.
func TestGcdOfNeighbours(t *testing.T) {
	for n := range 12 {
		for _, high := range []list{noise(3), {1}, {0x80000000}, {greatest}, {0, 0, 1}, {greatest, greatest, greatest, greatest}} {
			for _, low := range []list{nil, {1}, {2}, {0, 1}, noise(2)} {
				a := slices.Concat(repeat(0, n), high)
				b := nat.Add(a, low)
				checkGcd(t, a, b)
				checkGcd(t, prod.Word(a, 2, 0), b)
				checkGcd(t, a, prod.Word(b, 3, 0))
				if gap, ok := nat.Sub(a, low); ok {
					checkGcd(t, gap, b)
				}
			}
		}
	}
}

func TestGcdOfLongNumbers(t *testing.T) {
	for _, n := range []int{3, 4, 17, 130, 400} {
		a, b := fibonacci(n)
		l := []list{a, b, noise(n), noise(n + 1), repeat(greatest, n), behind(repeat(0, n), 1), slices.Concat(noise(9), repeat(0, n), noise(9))}
		for _, x := range l {
			for _, y := range l {
				checkGcd(t, x, y)
			}
		}
		if got := Gcd(a, b); !slices.Equal(got, list{1}) {
			t.Errorf("Gcd of Fibonacci's numbers of %d words: %d", n, got)
		}
		for _, c := range []list{{6}, {greatest, greatest}, noise(n / 2), behind(repeat(0, n), 3)} {
			if got, want := Gcd(prod.Mul(b, c), prod.Mul(a, c)), nat.Norm(c); !slices.Equal(got, want) {
				t.Errorf("Gcd of Fibonacci's numbers of %d words times %d: %d", n, c, got)
			}
		}
	}
}

func TestGcdOfPowersOfTwo(t *testing.T) {
	for m := range 140 {
		for n := range 140 {
			low := min(m, n)
			for _, c := range []struct{ a, b, odd uint32 }{{1, 1, 1}, {15, 1, 1}, {15, 21, 3}, {7, 7, 7}, {9, 25, 1}} {
				if got, want := Gcd(power(c.a, m), power(c.b, n)), power(c.odd, low); !slices.Equal(got, want) {
					t.Fatalf("Gcd(%d times 2^%d, %d times 2^%d): %d; want %d", c.a, m, c.b, n, got, want)
				}
			}
		}
	}
}

func TestAllTable(t *testing.T) {
	for i, c := range []struct {
		l    []list
		want list
	}{
		{nil, nil},
		{[]list{}, nil},
		{[]list{nil}, nil},
		{[]list{{0, 0}}, nil},
		{[]list{nil, {}, {0}, {0, 0}}, nil},
		{[]list{{1}}, list{1}},
		{[]list{{7, 8, 0}}, list{7, 8}},
		{[]list{{5}, nil}, list{5}},
		{[]list{nil, {5}}, list{5}},
		{[]list{{0, 0}, nil, {5, 0}, {0}}, list{5}},
		{[]list{{0}, {12}, {}, {18}, nil}, list{6}},
		{[]list{{12}, {18}}, list{6}},
		{[]list{{12}, {18}, {27}}, list{3}},
		{[]list{{12}, {18}, {27}, {8}}, list{1}},
		{[]list{{6}, {10}, {15}}, list{1}},
		{[]list{{30}, {42}, {70}, {105}}, list{1}},
		{[]list{{60}, {84}, {140}, {210}}, list{2}},
		{[]list{{1}, {12}, {18}}, list{1}},
		{[]list{{12}, {18}, {1, 0}}, list{1}},
		{[]list{{1}, nil}, list{1}},
		{[]list{{7}, {7}, {7}}, list{7}},
		{[]list{{0, 0, 4}, {0, 6}, {0, 0, 0, 8}}, list{0, 2}},
		{[]list{{0, 0, 4, 4}, {0, 0, 6, 6}, {0, 0, 0, 0, 8, 8}}, list{0, 0, 2, 2}},
		{[]list{{greatest, greatest}, {greatest, greatest, greatest}, {0, greatest}}, list{greatest}},
	} {
		if got := All(c.l...); !slices.Equal(got, c.want) {
			t.Errorf("%d: All(%d): %d; want %d", i, c.l, got, c.want)
		}
		slices.Reverse(c.l)
		if got := All(c.l...); !slices.Equal(got, c.want) {
			t.Errorf("%d: All(%d): %d; want %d", i, c.l, got, c.want)
		}
	}
}

func TestAllIsTheCommonDivisorOfAll(t *testing.T) {
	for _, a := range lists() {
		if got := All(a); !slices.Equal(got, nat.Norm(a)) {
			t.Fatalf("All(%d): %d", a, got)
		}
		for _, b := range lists() {
			both := new(big.Int).GCD(nil, nil, value(a), value(b))
			if got := All(a, b); !is(got, both) {
				t.Fatalf("All(%d, %d): %d; want %v", a, b, got, both)
			}
			for _, c := range edges() {
				want := new(big.Int).GCD(nil, nil, both, value(c))
				if got := All(a, b, c); !is(got, want) {
					t.Fatalf("All(%d, %d, %d): %d; want %v", a, b, c, got, want)
				}
			}
		}
	}
}

func TestAllOfMany(t *testing.T) {
	// Of the products of all primes but one any two have much in common, all of them together only 1.
	primes := []uint32{2, 3, 5, 7, 11, 13, 17, 19, 23, 29, 31, 37, 41, 43, 47}
	whole := list{1}
	for _, p := range primes {
		whole = prod.Word(whole, p, 0)
	}
	var l []list
	for _, p := range primes {
		q, _, _ := quot.Word(whole, p)
		l = append(l, prod.Mul(q, list{6, 0, 9}))
	}
	if got := All(l...); !slices.Equal(got, list{6, 0, 9}) {
		t.Errorf("All of products: %d", got)
	}
	for i, p := range primes {
		others := slices.Delete(slices.Clone(l), i, i+1)
		if got, want := All(others...), prod.Word(list{6, 0, 9}, p, 0); !slices.Equal(got, want) {
			t.Errorf("All but the one without %d: %d; want %d", p, got, want)
		}
	}
	for _, n := range []int{9, 64, 1000} {
		for _, a := range []list{nil, {1}, {6, 0}, {greatest}, {0, 1}, {5, 7, 9, 11}} {
			l := slices.Repeat([]list{a}, n)
			if got := All(l...); !slices.Equal(got, nat.Norm(a)) {
				t.Fatalf("All of %d times %d: %d", n, a, got)
			}
			for _, i := range []int{0, n / 2, n - 1} {
				one := slices.Clone(l)
				one[i] = prod.Word(a, 3, 0)
				if got := All(one...); !slices.Equal(got, nat.Norm(a)) {
					t.Fatalf("All of %d times %d, and thrice it: %d", n, a, got)
				}
				one[i] = list{1}
				if got := All(one...); !slices.Equal(got, list{1}) {
					t.Fatalf("All of %d times %d, and 1: %d", n, a, got)
				}
			}
		}
	}
}

// Of many noughts, or ones, beside a long number each must be cheap.
func TestAllOfShortOnesAndALongOne(t *testing.T) {
	long := repeat(greatest, 20000)
	for _, c := range []struct{ short, want list }{{nil, long}, {list{0, 0}, long}, {list{1}, list{1}}, {list{3}, list{3}}, {list{0, 3}, list{3}}} {
		for _, i := range []int{0, 70000, 199999} {
			l := slices.Repeat([]list{c.short}, 200000)
			l[i] = long
			if got := All(l...); !slices.Equal(got, c.want) {
				t.Fatalf("All of %d and a long list: %d words", c.short, len(got))
			}
		}
	}
}

func TestPrimeTable(t *testing.T) {
	for i, c := range []struct {
		a, b list
		want bool
	}{
		{nil, nil, false},
		{list{0}, list{0, 0}, false},
		{nil, list{1}, true},
		{list{0, 0}, list{1, 0}, true},
		{list{1}, list{1}, true},
		{list{1, 0}, list{1}, true},
		{nil, list{2}, false},
		{list{0}, list{0, 1}, false},
		{list{}, list{1, 0, 1}, false},
		{list{1}, list{2}, true},
		{list{1}, list{0, 0, 0, 1}, true},
		{list{2}, list{2}, false},
		{list{2}, list{3}, true},
		{list{2}, list{4}, false},
		{list{8}, list{9}, true},
		{list{12}, list{18}, false},
		{list{12, 0, 0}, list{35, 0}, true},
		{list{0, 1}, list{greatest}, true},
		{list{0, 1}, list{2}, false},
		{list{0, 1}, list{3}, true},
		{list{0, 1}, list{0, 3}, false},
		{list{1, 1}, list{0, 1}, true},
		{list{1, 1}, list{2, 2}, false},
		{list{0, 0, 1}, list{1, 0, 1}, true},
		{list{0, 0, 1}, list{0, 1}, false},
		{list{0, 0, 0, 1}, list{0, 0, 1, 1}, false},
		{list{1, 0, 0, 1}, list{2, 0, 0, 1}, true},
		{list{1, 0, 0, 2}, list{1, 0, 0, 3}, true},
		{list{7, 0, 0, 7}, list{5, 0, 0, 5}, false},
	} {
		if got := Prime(c.a, c.b); got != c.want {
			t.Errorf("%d: Prime(%d, %d): %v", i, c.a, c.b, got)
		}
		if got := Prime(c.b, c.a); got != c.want {
			t.Errorf("%d: Prime(%d, %d): %v", i, c.b, c.a, got)
		}
	}
}

func TestPrimeIsGcdOne(t *testing.T) {
	for _, a := range lists() {
		for _, b := range lists() {
			want := new(big.Int).GCD(nil, nil, value(a), value(b)).Cmp(big.NewInt(1)) == 0
			if got := Prime(a, b); got != want {
				t.Fatalf("Prime(%d, %d): %v", a, b, got)
			}
			// A divisor whose lowest word is 1, or that is the greatest of two words, isn't 1.
			for _, c := range []list{{1, 1}, {1, 0, 1}, {greatest, greatest}} {
				if Prime(prod.Mul(a, c), prod.Mul(b, c)) {
					t.Fatalf("Prime(%d, %d), both times %d", a, b, c)
				}
			}
		}
	}
}

func TestLcmTable(t *testing.T) {
	for i, c := range []struct{ a, b, want list }{
		{nil, nil, nil},
		{list{0}, list{0, 0}, nil},
		{nil, list{1}, nil},
		{list{0, 0}, list{7}, nil},
		{list{0}, list{7, 8, 9}, nil},
		{list{1}, list{1}, list{1}},
		{list{1, 0}, list{1}, list{1}},
		{list{1}, list{7, 8, 0}, list{7, 8}},
		{list{4}, list{6}, list{12}},
		{list{4, 0}, list{6, 0, 0}, list{12}},
		{list{12}, list{18}, list{36}},
		{list{7}, list{7}, list{7}},
		{list{7, 8, 9, 0}, list{7, 8, 9}, list{7, 8, 9}},
		{list{6}, list{18}, list{18}},
		{list{8}, list{9}, list{72}},
		{list{8}, list{32}, list{32}},
		{list{24}, list{32}, list{96}},
		{list{24}, list{40}, list{120}},
		{list{0x80000000}, list{3}, list{0x80000000, 1}},
		{list{0, 1}, list{0, 0, 1}, list{0, 0, 1}},
		{list{0, 3}, list{0, 0, 5}, list{0, 0, 15}},
		{list{0, 0, 0, 4}, list{0, 0, 0, 6}, list{0, 0, 0, 12}},
		{list{greatest}, list{0, 1}, list{0, greatest}},
		{list{greatest}, list{0xfffffffe}, list{2, 0xfffffffd}},
		{list{greatest}, list{greatest, greatest}, list{greatest, greatest}},
		{list{greatest, greatest}, list{greatest, greatest, greatest}, list{greatest, 0xfffffffe, greatest, 0, 1}},
		{list{5, 0, 0, 5}, list{7, 0, 0, 7}, list{35, 0, 0, 35}},
	} {
		if got := Lcm(c.a, c.b); !slices.Equal(got, c.want) {
			t.Errorf("%d: Lcm(%d, %d): %d; want %d", i, c.a, c.b, got, c.want)
		}
		if got := Lcm(c.b, c.a); !slices.Equal(got, c.want) {
			t.Errorf("%d: Lcm(%d, %d): %d; want %d", i, c.b, c.a, got, c.want)
		}
	}
}

func TestLcmIsTheCommonMultiple(t *testing.T) {
	for _, a := range append(lists(), noise(40)) {
		for _, b := range append(lists(), noise(41), repeat(greatest, 30)) {
			want := new(big.Int)
			if !nat.Zero(a) && !nat.Zero(b) {
				want.Mul(value(a), value(b))
				want.Quo(want, new(big.Int).GCD(nil, nil, value(a), value(b)))
			}
			if got := Lcm(a, b); !is(got, want) {
				t.Fatalf("Lcm(%d, %d): %d; want %v", a, b, got, want)
			}
		}
	}
	for a := 1; a < 60; a++ {
		for b := 1; b < 60; b++ {
			want := uint64(a)
			for want%uint64(b) > 0 {
				want += uint64(a)
			}
			if got, ok := nat.Small(Lcm(nat.Of(uint64(a)), nat.Of(uint64(b)))); !ok || got != want {
				t.Fatalf("Lcm(%d, %d): %d, %v; want %d", a, b, got, ok, want)
			}
		}
	}
}

func TestCancelTable(t *testing.T) {
	for i, c := range []struct{ a, b, x, y list }{
		{nil, nil, nil, nil},
		{list{}, list{0, 0}, nil, nil},
		{list{0}, list{0}, nil, nil},
		{nil, list{1}, nil, list{1}},
		{list{0, 0}, list{5}, nil, list{1}},
		{list{}, list{7, 8, 9, 0}, nil, list{1}},
		{list{1}, list{1}, list{1}, list{1}},
		{list{1, 0}, list{7, 8, 0}, list{1}, list{7, 8}},
		{list{12}, list{18}, list{2}, list{3}},
		{list{12, 0}, list{18, 0, 0}, list{2}, list{3}},
		{list{7}, list{7}, list{1}, list{1}},
		{list{7, 8, 9, 0}, list{7, 8, 9}, list{1}, list{1}},
		{list{6}, list{18}, list{1}, list{3}},
		{list{8}, list{9}, list{8}, list{9}},
		{list{8}, list{32}, list{1}, list{4}},
		{list{24}, list{32}, list{3}, list{4}},
		{list{24}, list{40}, list{3}, list{5}},
		{list{0, 1}, list{2}, list{0x80000000}, list{1}},
		{list{0, 1}, list{0, 0, 1}, list{1}, list{0, 1}},
		{list{0, 3}, list{0, 0, 5}, list{3}, list{0, 5}},
		{list{0, 0, 0, 4}, list{0, 0, 0, 6}, list{2}, list{3}},
		{list{greatest}, list{0, 1}, list{greatest}, list{0, 1}},
		{list{greatest}, list{greatest, greatest}, list{1}, list{1, 1}},
		{list{greatest, greatest}, list{greatest, greatest, greatest}, list{1, 1}, list{1, 1, 1}},
		{list{5, 0, 0, 5}, list{7, 0, 0, 7}, list{5}, list{7}},
		{list{1, 0, 0, 1}, list{2, 0, 0, 1}, list{1, 0, 0, 1}, list{2, 0, 0, 1}},
		{power(15, 3000), power(21, 2000), power(5, 1000), list{7}},
	} {
		if x, y := Cancel(c.a, c.b); !slices.Equal(x, c.x) || !slices.Equal(y, c.y) {
			t.Errorf("%d: Cancel(%d, %d): %d, %d; want %d, %d", i, c.a, c.b, x, y, c.x, c.y)
		}
		if y, x := Cancel(c.b, c.a); !slices.Equal(x, c.x) || !slices.Equal(y, c.y) {
			t.Errorf("%d: Cancel(%d, %d): %d, %d; want %d, %d", i, c.b, c.a, y, x, c.y, c.x)
		}
	}
}

func TestCancelIsBothByTheirCommonDivisor(t *testing.T) {
	for _, a := range append(lists(), noise(40)) {
		for _, b := range append(lists(), noise(41), repeat(greatest, 30)) {
			x, y := Cancel(a, b)
			if nat.Zero(a) && nat.Zero(b) {
				if len(x) != 0 || len(y) != 0 {
					t.Fatalf("Cancel(%d, %d): %d, %d", a, b, x, y)
				}
				continue
			}
			g := new(big.Int).GCD(nil, nil, value(a), value(b))
			if !is(x, new(big.Int).Quo(value(a), g)) || !is(y, new(big.Int).Quo(value(b), g)) {
				t.Fatalf("Cancel(%d, %d): %d, %d; common divisor %v", a, b, x, y, g)
			}
		}
	}
}

func divides(d, a list) bool {
	_, ok := quot.Exact(a, d)
	return ok || nat.Zero(d) && nat.Zero(a)
}

func TestTheCommonDivisorDividesBoth(t *testing.T) {
	for _, a := range lists() {
		for _, b := range lists() {
			g := Gcd(a, b)
			if !divides(g, a) || !divides(g, b) {
				t.Fatalf("Gcd(%d, %d): %d", a, b, g)
			}
			for _, d := range edges() {
				if divides(d, a) && divides(d, b) && !divides(d, g) {
					t.Fatalf("Gcd(%d, %d): %d; %d divides both", a, b, g, d)
				}
			}
		}
	}
}

func TestTheCommonDivisorOfProductsIsTheProduct(t *testing.T) {
	for _, a := range lists() {
		for _, b := range lists() {
			g := Gcd(a, b)
			for _, c := range edges() {
				if got, want := Gcd(prod.Mul(a, c), prod.Mul(b, c)), prod.Mul(g, c); !slices.Equal(got, want) {
					t.Fatalf("Gcd(%d, %d), both times %d: %d; want %d", a, b, c, got, want)
				}
			}
		}
	}
}

func TestDivisorAndMultipleMakeTheProduct(t *testing.T) {
	for _, a := range append(lists(), noise(50)) {
		for _, b := range append(lists(), noise(51)) {
			if got, want := prod.Mul(Gcd(a, b), Lcm(a, b)), prod.Mul(a, b); !slices.Equal(got, want) {
				t.Fatalf("Gcd times Lcm of %d, %d: %d; want %d", a, b, got, want)
			}
			if m := Lcm(a, b); !divides(a, m) || !divides(b, m) {
				t.Fatalf("Lcm(%d, %d): %d", a, b, m)
			}
		}
	}
}

func TestWhatIsLeftHasNothingInCommon(t *testing.T) {
	for _, a := range append(lists(), noise(50)) {
		for _, b := range append(factors(), noise(51)) {
			x, y := Cancel(a, b)
			if !Prime(x, y) || !Prime(y, x) || !slices.Equal(Gcd(x, y), list{1}) {
				t.Fatalf("Cancel(%d, %d): %d, %d", a, b, x, y)
			}
			g := Gcd(a, b)
			if nat.Cmp(prod.Mul(x, g), a) != 0 || nat.Cmp(prod.Mul(y, g), b) != 0 {
				t.Fatalf("Cancel(%d, %d): %d, %d, which times %d are others", a, b, x, y, g)
			}
			// What is put to both is cancelled again, so fractions of one value lead to one pair.
			for _, c := range []list{{6}, {0, 1}, {greatest, greatest}, {3, 0, 0, 7}} {
				if u, v := Cancel(prod.Mul(a, c), prod.Mul(b, c)); !slices.Equal(u, x) || !slices.Equal(v, y) {
					t.Fatalf("Cancel(%d, %d), both times %d: %d, %d; want %d, %d", a, b, c, u, v, x, y)
				}
			}
		}
	}
}

func TestTheOrderDoesntMatter(t *testing.T) {
	for _, a := range lists() {
		for _, b := range lists() {
			if x, y := Gcd(a, b), Gcd(b, a); !slices.Equal(x, y) {
				t.Fatalf("Gcd(%d, %d): %d; the other way %d", a, b, x, y)
			}
			if x, y := Lcm(a, b), Lcm(b, a); !slices.Equal(x, y) {
				t.Fatalf("Lcm(%d, %d): %d; the other way %d", a, b, x, y)
			}
			x, y := Cancel(a, b)
			if v, u := Cancel(b, a); !slices.Equal(x, u) || !slices.Equal(y, v) {
				t.Fatalf("Cancel(%d, %d): %d, %d; the other way %d, %d", a, b, x, y, v, u)
			}
		}
	}
	l := []list{{0, 0, 4, 4, 0}, nil, {0, 0, 6, 6}, {0, 0, 0, 0, 8, 8}, {0, 0}, {0, 10, 10}}
	for range len(l) {
		l = append(l[1:], l[0])
		if got := All(l...); !slices.Equal(got, list{0, 2, 2}) {
			t.Errorf("All(%d): %d", l, got)
		}
		for i := range l {
			if got := Gcd(All(l[:i]...), All(l[i:]...)); !slices.Equal(got, list{0, 2, 2}) {
				t.Errorf("Gcd of the first %d and the others of %d: %d", i, l, got)
			}
		}
	}
}

// What is asked costs no more than the numbers are long, however many noughts stand at the end.
func TestNoughtsAtTheEndAreCheap(t *testing.T) {
	many := repeat(0, 1000000)
	a, b := behind(list{12, 0, 0, 12}, many...), behind(list{18, 0, 0, 18}, many...)
	x, y := Cancel(a, b)
	for i, c := range []struct{ got, want list }{
		{Gcd(a, b), list{6, 0, 0, 6}},
		{Gcd(a, a), list{12, 0, 0, 12}},
		{Gcd(a, many), list{12, 0, 0, 12}},
		{Gcd(many, many), nil},
		{All(a, b, a, many, b), list{6, 0, 0, 6}},
		{Lcm(a, b), list{36, 0, 0, 36}},
		{x, list{2}},
		{y, list{3}},
	} {
		if !slices.Equal(c.got, c.want) {
			t.Errorf("%d: %d words; want %d", i, len(c.got), c.want)
		}
	}
	if Prime(a, b) || !Prime(a, behind(list{1}, many...)) {
		t.Errorf("Prime: %v, %v", Prime(a, b), Prime(a, behind(list{1}, many...)))
	}
}

// Each of these answers two lists, or one and none; a bit is told as one.
var answers = []struct {
	name string
	of   func(a, b list) (x, y list)
}{
	{"Gcd", func(a, b list) (x, y list) { return Gcd(a, b), nil }},
	{"Gcd of itself", func(a, b list) (x, y list) { return Gcd(a, a), nil }},
	{"Gcd with 0", func(a, b list) (x, y list) { return Gcd(a, nil), Gcd(list{0}, b) }},
	{"Gcd with 1", func(a, b list) (x, y list) { return Gcd(a, list{1}), Gcd(list{1, 0}, b) }},
	{"All of none", func(a, b list) (x, y list) { return All(), nil }},
	{"All of one", func(a, b list) (x, y list) { return All(a), All(b) }},
	{"All", func(a, b list) (x, y list) { return All(a, b), nil }},
	{"All with noughts", func(a, b list) (x, y list) { return All(nil, a, list{0, 0}), All(list{0}, b) }},
	{"All of many", func(a, b list) (x, y list) { return All(a, a, b, a, b), nil }},
	{"Lcm", func(a, b list) (x, y list) { return Lcm(a, b), nil }},
	{"Lcm of itself", func(a, b list) (x, y list) { return Lcm(a, a), nil }},
	{"Lcm with 1", func(a, b list) (x, y list) { return Lcm(a, list{1}), Lcm(list{1}, b) }},
	{"Lcm with 0", func(a, b list) (x, y list) { return Lcm(a, nil), Lcm(nil, b) }},
	{"Prime", func(a, b list) (x, y list) { return bit(Prime(a, b)), nil }},
	{"Cancel", Cancel},
	{"Cancel with itself", func(a, b list) (x, y list) { return Cancel(a, a) }},
	{"Cancel with 1", func(a, b list) (x, y list) { return Cancel(a, list{1}) }},
	{"Cancel with 0", func(a, b list) (x, y list) { return Cancel(nil, b) }},
}

func bit(ok bool) list {
	if ok {
		return list{1}
	}
	return nil
}

// lend hands out a with spare room behind it, whose words show who wrote there, or who read.
func lend(a list, fill uint32) list { return behind(a, fill, fill, fill)[:len(a)] }

func room(a list) list { return a[:cap(a)] }

func turnOver(a list) {
	for i := range room(a) {
		room(a)[i] = ^room(a)[i]
	}
}

func TestWhatIsHandedInIsLeft(t *testing.T) {
	for _, c := range answers {
		for _, a := range lists() {
			for _, b := range lists() {
				u, v := lend(a, greatest), lend(b, 1)
				beforeU, beforeV := slices.Clone(room(u)), slices.Clone(room(v))
				x, y := c.of(u, v)
				if !slices.Equal(room(u), beforeU) || !slices.Equal(room(v), beforeV) {
					t.Fatalf("%s of %d, %d: made of them %d, %d", c.name, a, b, room(u), room(v))
				}
				// An answer that shares memory with an argument, spare room too, shows when it is written over.
				turnOver(x)
				turnOver(y)
				if !slices.Equal(room(u), beforeU) || !slices.Equal(room(v), beforeV) {
					t.Fatalf("%s of %d, %d: an answer is theirs", c.name, a, b)
				}
			}
		}
	}
}

func TestAllLeavesTheListOfLists(t *testing.T) {
	l := []list{{12, 0}, nil, {18}, {8, 0, 0}, {9, 9}}
	if got := All(l[:4]...); !slices.Equal(got, list{2}) {
		t.Errorf("read behind the length: %d", got)
	}
	for i, want := range []list{{12, 0}, nil, {18}, {8, 0, 0}, {9, 9}} {
		if !slices.Equal(l[i], want) {
			t.Errorf("left: %d", l)
		}
	}
}

func TestNothingBehindTheLengthIsRead(t *testing.T) {
	for _, c := range answers {
		for _, a := range lists() {
			for _, b := range lists() {
				wantx, wanty := c.of(slices.Clip(slices.Clone(a)), slices.Clip(slices.Clone(b)))
				x, y := c.of(lend(a, greatest), lend(b, 1))
				if !slices.Equal(x, wantx) || !slices.Equal(y, wanty) {
					t.Fatalf("%s of %d, %d: %d, %d; want %d, %d", c.name, a, b, x, y, wantx, wanty)
				}
			}
		}
	}
}

func TestAnswersShareNothing(t *testing.T) {
	for _, c := range answers {
		for _, a := range lists() {
			for _, b := range lists() {
				x, y := c.of(a, b)
				wantx, wanty := slices.Clone(x), slices.Clone(y)
				before := slices.Clone(room(y))
				turnOver(x)
				if !slices.Equal(room(y), before) {
					t.Fatalf("%s of %d, %d: both answers are one", c.name, a, b)
				}
				turnOver(y)
				if x, y = c.of(a, b); !slices.Equal(x, wantx) || !slices.Equal(y, wanty) {
					t.Fatalf("%s of %d, %d: %d, %d, then %d, %d", c.name, a, b, wantx, wanty, x, y)
				}
			}
		}
	}
}

func TestAnswersAreRight(t *testing.T) {
	for _, c := range answers {
		for _, a := range lists() {
			for _, b := range lists() {
				if x, y := c.of(a, b); !right(x) || !right(y) {
					t.Fatalf("%s of %d, %d: %d, %d", c.name, a, b, x, y)
				}
			}
		}
	}
}

func TestAListThatIsNotRightTellsTheSame(t *testing.T) {
	for _, c := range answers {
		for _, a := range lists() {
			for _, b := range lists() {
				wantx, wanty := c.of(nat.Norm(a), nat.Norm(b))
				for _, n := range []int{1, 2, 9} {
					x, y := c.of(behind(a, repeat(0, n)...), behind(b, repeat(0, 10-n)...))
					if !slices.Equal(x, wantx) || !slices.Equal(y, wanty) {
						t.Fatalf("%s of %d, %d with noughts behind: %d, %d; want %d, %d", c.name, a, b, x, y, wantx, wanty)
					}
				}
			}
		}
	}
}

func TestNoughtHoweverWritten(t *testing.T) {
	for _, zero := range noughts() {
		for _, other := range noughts() {
			x, y := Cancel(zero, other)
			for i, got := range []list{Gcd(zero, other), All(zero, other, zero), Lcm(zero, other), x, y} {
				if len(got) != 0 {
					t.Errorf("%d: of %d and %d words of 0: %d", i, len(zero), len(other), got)
				}
			}
			if Prime(zero, other) {
				t.Errorf("Prime of %d and %d words of 0", len(zero), len(other))
			}
		}
		for _, a := range factors() {
			x, y := Cancel(a, zero)
			if got := Gcd(a, zero); !slices.Equal(got, nat.Norm(a)) {
				t.Errorf("Gcd(%d, 0): %d", a, got)
			}
			if got := Lcm(a, zero); len(got) != 0 {
				t.Errorf("Lcm(%d, 0): %d", a, got)
			}
			if !slices.Equal(x, list{1}) || len(y) != 0 {
				t.Errorf("Cancel(%d, 0): %d, %d", a, x, y)
			}
			if got, want := Prime(a, zero), slices.Equal(nat.Norm(a), list{1}); got != want {
				t.Errorf("Prime(%d, 0): %v", a, got)
			}
		}
	}
}

func TestExamples(t *testing.T) {
	if a := Gcd(nat.Of(12), nat.Of(18)); !slices.Equal(a, list{6}) {
		t.Error(a)
	}
	if a := Lcm(nat.Of(4), nat.Of(6)); !slices.Equal(a, list{12}) {
		t.Error(a)
	}
	if a := Gcd(nat.Of(0), nat.Of(5)); !slices.Equal(a, list{5}) {
		t.Error(a)
	}
	if x, y := Cancel(nat.Of(12), nat.Of(18)); !slices.Equal(x, list{2}) || !slices.Equal(y, list{3}) {
		t.Error(x, y)
	}
}
