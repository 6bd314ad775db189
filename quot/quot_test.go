package quot

import (
	"math/big"
	"slices"
	"testing"

	"retrospect/nat"
	"retrospect/prod"
	"retrospect/twos"
)

type list = []uint32

// At these lists lengths and guesses change; some have noughts at the end, so they are not right.
func edges() []list {
	return []list{
		nil, {}, {0}, {0, 0, 0},
		{1}, {1, 0, 0}, {2}, {3}, {3, 0}, {7}, {0xffff}, {0x10000}, {0x10001}, {0x7fffffff}, {0x80000000}, {0xfffffffe}, {greatest}, {greatest, 0},
		{0, 1}, {1, 1}, {0, 1, 0}, {greatest, 1}, {0, 0x80000000}, {greatest, 0x80000000}, {greatest, 0x7fffffff}, {0, greatest}, {0xfffffffe, greatest}, {greatest, greatest}, {greatest, greatest, 0, 0},
		{0, 0, 1}, {1, 0, 1}, {greatest, greatest, 1}, {0, 0, 0x80000000}, {1, 0, 0x80000000}, {greatest, 0, greatest}, {greatest, greatest, greatest}, {0, greatest, greatest},
		{0, 5, 0, 7, 0}, {0, 0, 0, 1}, {greatest, greatest, greatest, greatest}, {1, 0, 0, 0x20000000},
	}
}

// What fails on one of the lists without a pattern must fail again, so they are always the same ones.
func noise(n int) list {
	x := uint32(2463534242) + uint32(n)
	a := make(list, n)
	for i := range a {
		x ^= x << 13
		x ^= x >> 17
		x ^= x << 5
		a[i] = x
	}
	return a
}

func lists() []list {
	l := edges()
	for n := range 9 {
		l = append(l, noise(n))
	}
	return l
}

func divisors() []list {
	return slices.DeleteFunc(lists(), nat.Zero)
}

func noughts() []list {
	return []list{nil, {}, {0}, {0, 0}, repeat(0, 1000)}
}

func words() []uint32 {
	return []uint32{1, 2, 3, 7, 10, 0xffff, 0x10000, 0x10001, 0x7fffffff, 0x80000000, 0x80000001, 0xfffffffe, greatest, 0x9e3779b9}
}

func value(a list) *big.Int {
	n := new(big.Int)
	for i, w := range a {
		at := new(big.Int).SetUint64(uint64(w))
		n.Add(n, at.Lsh(at, uint(32*i)))
	}
	return n
}

func right(a list) bool { return len(a) == 0 || a[len(a)-1] != 0 }

// is tells whether a is the right list of n.
func is(a list, n *big.Int) bool { return right(a) && value(a).Cmp(n) == 0 }

func behind(a list, w ...uint32) list { return append(slices.Clone(a), w...) }

func repeat(w uint32, n int) list { return slices.Repeat(list{w}, n) }

func TestWordTable(t *testing.T) {
	for i, c := range []struct {
		a  list
		x  uint32
		q  list
		r  uint32
		ok bool
	}{
		{nil, 0, nil, 0, false},
		{list{0, 0}, 0, nil, 0, false},
		{list{7}, 0, nil, 0, false},
		{list{7, 8, 9}, 0, nil, 0, false},
		{repeat(greatest, 5), 0, nil, 0, false},
		{nil, 1, nil, 0, true},
		{list{}, 7, nil, 0, true},
		{list{0, 0, 0}, greatest, nil, 0, true},
		{list{1}, 1, list{1}, 0, true},
		{list{7, 8, 9}, 1, list{7, 8, 9}, 0, true},
		{list{7, 8, 0, 0}, 1, list{7, 8}, 0, true},
		{repeat(greatest, 5), 1, repeat(greatest, 5), 0, true},
		{list{7}, 2, list{3}, 1, true},
		{list{7, 0, 0}, 2, list{3}, 1, true},
		{list{7}, 7, list{1}, 0, true},
		{list{7}, 8, nil, 7, true},
		{list{7}, 6, list{1}, 1, true},
		{list{7, 0}, greatest, nil, 7, true},
		{list{0xfffffffe}, greatest, nil, 0xfffffffe, true},
		{list{greatest}, greatest, list{1}, 0, true},
		{list{0, 1}, greatest, list{1}, 1, true},
		{list{0xfffffffe, 1}, greatest, list{2}, 0, true},
		{list{0xfffffffd, 1}, greatest, list{1}, 0xfffffffe, true},
		{list{1, 0xfffffffe}, greatest, list{greatest}, 0, true},
		{list{0, greatest}, greatest, list{0, 1}, 0, true},
		{list{0xfffffffe, 0xfffffffe}, greatest, list{greatest}, 0xfffffffd, true},
		{list{greatest, 0xfffffffe}, greatest, list{greatest}, 0xfffffffe, true},
		{list{greatest, greatest}, greatest, list{1, 1}, 0, true},
		{list{0, 1}, 2, list{0x80000000}, 0, true},
		{list{1, 0, 1}, 2, list{0, 0x80000000}, 1, true},
		{list{5, 0, 0, 3}, 3, list{1, 0, 0, 1}, 2, true},
		{list{0, 0, 0, 7}, 7, list{0, 0, 0, 1}, 0, true},
		{list{6, 0, 0, 7}, 7, list{0, 0, 0, 1}, 6, true},
		{list{0, 0, 0x80000000}, 0x80000000, list{0, 0, 1}, 0, true},
		{repeat(greatest, 1000), greatest, repeat(1, 1000), 0, true},
		{behind(list{1}, repeat(greatest, 1000)...), greatest, behind(list{0}, repeat(1, 1000)...), 1, true},
	} {
		if q, r, ok := Word(c.a, c.x); !slices.Equal(q, c.q) || r != c.r || ok != c.ok {
			t.Errorf("%d: Word(%d, %d): %d, %d, %v; want %d, %d, %v", i, c.a, c.x, q, r, ok, c.q, c.r, c.ok)
		}
	}
}

func TestWordIsQuotientAndRest(t *testing.T) {
	for _, a := range append(lists(), noise(100)) {
		for _, x := range words() {
			wantq, wantr := new(big.Int).QuoRem(value(a), value(list{x}), new(big.Int))
			if q, r, ok := Word(a, x); !ok || !is(q, wantq) || value(list{r}).Cmp(wantr) != 0 {
				t.Fatalf("Word(%d, %d): %d, %d, %v; want %v, %v", a, x, q, r, ok, wantq, wantr)
			}
		}
	}
}

func TestWordByNoughtIsNone(t *testing.T) {
	for _, a := range lists() {
		if q, r, ok := Word(a, 0); ok || len(q) != 0 || r != 0 {
			t.Errorf("Word(%d, 0): %d, %d, %v", a, q, r, ok)
		}
	}
}

func TestDivTable(t *testing.T) {
	for i, c := range []struct{ a, b, q, r list }{
		{nil, list{1}, nil, nil},
		{list{}, list{greatest, greatest}, nil, nil},
		{list{0, 0, 0}, list{7, 0}, nil, nil},
		{list{1}, list{1}, list{1}, nil},
		{list{7, 8, 9}, list{1}, list{7, 8, 9}, nil},
		{list{7, 8, 0, 0}, list{1, 0, 0}, list{7, 8}, nil},
		{list{7}, list{2}, list{3}, list{1}},
		{list{7, 0, 0}, list{2, 0}, list{3}, list{1}},
		{list{7}, list{7}, list{1}, nil},
		{list{7}, list{8}, nil, list{7}},
		{list{7, 0, 0}, list{8}, nil, list{7}},
		{list{7}, list{0, 0, 1}, nil, list{7}},
		{list{7, 8, 9}, list{7, 8, 9}, list{1}, nil},
		{list{7, 8, 9, 0}, list{7, 8, 9, 0, 0}, list{1}, nil},
		{list{6, 8, 9, 0}, list{7, 8, 9}, nil, list{6, 8, 9}},
		{list{8, 8, 9}, list{7, 8, 9}, list{1}, list{1}},
		{list{7, 9, 9}, list{7, 8, 9}, list{1}, list{0, 1}},
		{list{7, 8}, list{7, 8, 9}, nil, list{7, 8}},
		{list{5, 0, 7}, list{greatest}, list{7, 7}, list{12}},
		{list{0, 0, 1}, list{0, 1}, list{0, 1}, nil},
		{list{5, 6, 7}, list{0, 1}, list{6, 7}, list{5}},
		{list{5, 6, 7}, list{0, 0, 1}, list{7}, list{5, 6}},
		{list{0, 0, 1}, list{1, 1}, list{greatest}, list{1}},
		{list{1, 2, 1}, list{1, 1}, list{1, 1}, nil},
		{list{0, 2, 1}, list{1, 1}, list{0, 1}, list{0, 1}},
		{list{2, 2, 1}, list{1, 1}, list{1, 1}, list{1}},
		{list{4, 13, 22, 15}, list{4, 5}, list{1, 2, 3}, nil},
		{list{4, 13, 22, 15}, list{1, 2, 3}, list{4, 5}, nil},
		{list{1, 0, 0xfffffffe, greatest}, list{greatest, greatest}, list{greatest, greatest}, nil},
		{list{0, 0, 0xfffffffe, greatest}, list{greatest, greatest}, list{0xfffffffe, greatest}, list{0xfffffffe, greatest}},
		{list{2, 0, 0xfffffffe, greatest}, list{greatest, greatest}, list{greatest, greatest}, list{1}},
		{list{0, 0, greatest, greatest}, list{greatest, greatest}, list{0, 0, 1}, nil},
		{list{greatest, greatest, greatest, greatest}, list{greatest, greatest}, list{1, 0, 1}, nil},
		{list{greatest, greatest, greatest, greatest}, list{0, 1}, list{greatest, greatest, greatest}, list{greatest}},
		{list{0, 0, 0x80000000}, list{0, 0x80000000}, list{0, 1}, nil},
		{list{3, 0, 0x80000000}, list{1, 0, 0x20000000}, list{3}, list{0, 0, 0x20000000}},
		{list{0, 0xfffffffe, 0x80000000}, list{greatest, 0x80000000}, list{greatest}, list{greatest, 0x7fffffff}},
		{list{0, 0, 0, 0x80000000, 0x7fffffff}, list{1, 0, 0, 0x80000000}, list{0xfffffffe}, list{2, greatest, greatest, 0x7fffffff}},
		{behind(repeat(0, 300), 15), behind(repeat(0, 100), 5), behind(repeat(0, 200), 3), nil},
		{behind(behind(list{9}, repeat(0, 299)...), 15), behind(repeat(0, 100), 5), behind(repeat(0, 200), 3), list{9}},
		{repeat(greatest, 300), repeat(greatest, 100), behind(behind(behind(list{1}, repeat(0, 99)...), behind(list{1}, repeat(0, 99)...)...), 1), nil},
	} {
		if q, r, ok := Div(c.a, c.b); !slices.Equal(q, c.q) || !slices.Equal(r, c.r) || !ok {
			t.Errorf("%d: Div(%d, %d): %d, %d, %v; want %d, %d, true", i, c.a, c.b, q, r, ok, c.q, c.r)
		}
	}
}

func checkDiv(t *testing.T, a, b list) {
	t.Helper()
	wantq, wantr := new(big.Int).QuoRem(value(a), value(b), new(big.Int))
	if q, r, ok := Div(a, b); !ok || !is(q, wantq) || !is(r, wantr) {
		t.Fatalf("Div(%d, %d): %d, %d, %v; want %v, %v", a, b, q, r, ok, wantq, wantr)
	}
}

func TestDivIsQuotientAndRest(t *testing.T) {
	for _, a := range append(lists(), noise(100)) {
		for _, b := range append(divisors(), noise(50), behind(repeat(0, 40), 1)) {
			checkDiv(t, a, b)
		}
	}
}

func TestDivByNoughtIsNone(t *testing.T) {
	for _, a := range lists() {
		for _, b := range noughts() {
			if q, r, ok := Div(a, b); ok || len(q) != 0 || len(r) != 0 {
				t.Errorf("Div(%d, %d words of 0): %d, %d, %v", a, len(b), q, r, ok)
			}
		}
	}
}

// patterns are all lists of n words, each of them one of those at which a guess is too great, or just not.
func patterns(n int) []list {
	if n == 0 {
		return []list{nil}
	}
	var l []list
	for _, a := range patterns(n - 1) {
		for _, w := range []uint32{0, 1, 0x7fffffff, 0x80000000, 0xfffffffe, greatest} {
			l = append(l, behind(a, w))
		}
	}
	return l
}

func TestDivWhereGuessesAreTooGreat(t *testing.T) {
	for n := 1; n <= 3; n++ {
		for _, b := range slices.DeleteFunc(patterns(n), nat.Zero) {
			for _, a := range patterns(4) {
				checkDiv(t, a, b)
			}
		}
	}
	for _, b := range patterns(4) {
		// The highest word is what the guess is made from, so all heights of its first bit come.
		for n := range 32 {
			d := behind(b, 1<<n)
			for _, q := range []list{{greatest}, {0xfffffffe, greatest}, {0, 0, 1}} {
				checkAround(t, prod.Mul(q, d), d)
			}
		}
	}
}

// checkAround divides numbers by d that are a product of it, or hardly greater or less than one.
func checkAround(t *testing.T, product, d list) {
	t.Helper()
	for _, gap := range []list{nil, {1}, {2}, {greatest}} {
		checkDiv(t, nat.Add(product, gap), d)
		if less, ok := nat.Sub(product, gap); ok {
			checkDiv(t, less, d)
		}
	}
}

func TestExactTable(t *testing.T) {
	for i, c := range []struct {
		a, b, q list
		ok      bool
	}{
		{nil, nil, nil, false},
		{list{0, 0}, list{0}, nil, false},
		{list{6}, nil, nil, false},
		{list{6}, list{0, 0}, nil, false},
		{list{7, 8, 9}, list{0, 0, 0, 0}, nil, false},
		{nil, list{3}, nil, true},
		{list{}, list{0, 1}, nil, true},
		{list{0, 0, 0}, list{3, 0}, nil, true},
		{list{6}, list{3}, list{2}, true},
		{list{6, 0}, list{3, 0, 0}, list{2}, true},
		{list{7}, list{3}, nil, false},
		{list{8}, list{3}, nil, false},
		{list{3}, list{6}, nil, false},
		{list{3}, list{3, 1}, nil, false},
		{list{6}, list{6}, list{1}, true},
		{list{6}, list{1}, list{6}, true},
		{list{7, 8, 0, 0}, list{1}, list{7, 8}, true},
		{list{7, 8, 9}, list{7, 8, 9, 0}, list{1}, true},
		{list{7, 8, 9}, list{6, 8, 9}, nil, false},
		{list{0, 1}, list{2}, list{0x80000000}, true},
		{list{0, 1}, list{3}, nil, false},
		{list{0, 1}, list{greatest}, nil, false},
		{list{greatest, greatest}, list{greatest}, list{1, 1}, true},
		{list{0xfffffffe, greatest}, list{greatest}, nil, false},
		{list{1, 2, 1}, list{1, 1}, list{1, 1}, true},
		{list{0, 2, 1}, list{1, 1}, nil, false},
		{list{2, 2, 1}, list{1, 1}, nil, false},
		{list{1, 3, 1}, list{1, 1}, nil, false},
		{list{1, 0, 0xfffffffe, greatest}, list{greatest, greatest}, list{greatest, greatest}, true},
		{list{0, 0, 15}, list{0, 5}, list{0, 3}, true},
		{list{0, 0, 16}, list{0, 5}, nil, false},
		{list{0, 1, 15}, list{0, 0, 5}, nil, false},
	} {
		if q, ok := Exact(c.a, c.b); !slices.Equal(q, c.q) || ok != c.ok {
			t.Errorf("%d: Exact(%d, %d): %d, %v; want %d, %v", i, c.a, c.b, q, ok, c.q, c.ok)
		}
	}
}

func TestExactIsTheQuotientWithoutARest(t *testing.T) {
	for _, a := range lists() {
		for _, b := range lists() {
			q, r, ok := Div(a, b)
			got, exact := Exact(a, b)
			if want := ok && len(r) == 0; exact != want {
				t.Fatalf("Exact(%d, %d): %v; want %v", a, b, exact, want)
			}
			if exact && !slices.Equal(got, q) || !exact && len(got) != 0 {
				t.Fatalf("Exact(%d, %d): %d; Div %d, %d", a, b, got, q, r)
			}
		}
		for _, b := range noughts() {
			if q, ok := Exact(a, b); ok || len(q) != 0 {
				t.Errorf("Exact(%d, %d words of 0): %d, %v", a, len(b), q, ok)
			}
		}
	}
}

func TestWhatIsDividedIsTheProductAndTheRest(t *testing.T) {
	for _, a := range append(lists(), noise(90), repeat(greatest, 120)) {
		for _, b := range append(divisors(), noise(33), repeat(greatest, 60)) {
			q, r, ok := Div(a, b)
			if !ok || nat.Cmp(r, b) >= 0 {
				t.Fatalf("Div(%d, %d): %d, %d, %v", a, b, q, r, ok)
			}
			if back := nat.Add(prod.Mul(q, b), r); nat.Cmp(back, a) != 0 {
				t.Fatalf("Div(%d, %d) leads back to %d", a, b, back)
			}
		}
		for _, x := range words() {
			q, r, ok := Word(a, x)
			if !ok || r >= x || nat.Cmp(prod.Word(q, x, r), a) != 0 {
				t.Fatalf("Word(%d, %d): %d, %d, %v", a, x, q, r, ok)
			}
		}
	}
}

func TestWhatWasMultipliedIsDividedWithoutARest(t *testing.T) {
	for _, a := range lists() {
		for _, b := range divisors() {
			product := prod.Mul(a, b)
			if q, r, ok := Div(product, b); !ok || !slices.Equal(q, nat.Norm(a)) || len(r) != 0 {
				t.Fatalf("Div(%d times %d): %d, %d, %v", a, b, q, r, ok)
			}
			if q, ok := Exact(product, b); !ok || !slices.Equal(q, nat.Norm(a)) {
				t.Fatalf("Exact(%d times %d): %d, %v", a, b, q, ok)
			}
			checkRests(t, a, b, product)
		}
	}
}

// checkRests looks whether each rest comes back, up to the greatest one, and none from there on.
func checkRests(t *testing.T, a, b, product list) {
	t.Helper()
	most, _ := nat.Sub(b, list{1})
	for _, rest := range []list{{1}, most, twos.Down(b, 1)} {
		if nat.Zero(rest) || nat.Cmp(rest, b) >= 0 {
			continue
		}
		n := nat.Add(product, rest)
		if q, r, ok := Div(n, b); !ok || !slices.Equal(q, nat.Norm(a)) || !slices.Equal(r, nat.Norm(rest)) {
			t.Fatalf("Div(%d times %d and %d): %d, %d, %v", a, b, rest, q, r, ok)
		}
		if q, ok := Exact(n, b); ok || len(q) != 0 {
			t.Fatalf("Exact(%d times %d and %d): %d, %v", a, b, rest, q, ok)
		}
	}
	if q, r, _ := Div(nat.Add(product, b), b); !slices.Equal(q, nat.Add(a, list{1})) || len(r) != 0 {
		t.Fatalf("Div(%d and 1 times %d): %d, %d", a, b, q, r)
	}
}

func TestLongNumbers(t *testing.T) {
	for _, n := range []int{200, 1000} {
		for _, b := range []list{noise(n / 2), noise(n), repeat(greatest, n), behind(repeat(0, n), 1), behind(repeat(greatest, n), 1), {greatest, greatest}, {greatest}} {
			for _, q := range []list{noise(n), repeat(greatest, n), behind(repeat(0, n), 1), slices.Concat(noise(9), repeat(0, n), noise(9))} {
				r := twos.Down(b, 1)
				a := nat.Add(prod.Mul(q, b), r)
				if gotq, gotr, ok := Div(a, b); !ok || !slices.Equal(gotq, q) || !slices.Equal(gotr, r) {
					t.Fatalf("%d words by %d: %d words, %d words, %v", len(a), len(b), len(gotq), len(gotr), ok)
				}
				if got, ok := Exact(prod.Mul(q, b), b); !ok || !slices.Equal(got, q) {
					t.Fatalf("%d words by %d: exact %d words, %v", len(a), len(b), len(got), ok)
				}
			}
		}
	}
}

func TestDivByOneWordIsWord(t *testing.T) {
	for _, a := range lists() {
		for _, x := range words() {
			wantq, wantr, _ := Word(a, x)
			if q, r, ok := Div(a, list{x}); !ok || !slices.Equal(q, wantq) || !slices.Equal(r, nat.Of(uint64(wantr))) {
				t.Fatalf("Div(%d, %d): %d, %d, %v; Word %d, %d", a, x, q, r, ok, wantq, wantr)
			}
		}
	}
}

func TestDivByAPowerOfTwoIsAShift(t *testing.T) {
	for _, a := range append(lists(), noise(20)) {
		for n := range 300 {
			q, r, ok := Div(a, twos.Up(list{1}, n))
			if !ok || !slices.Equal(q, twos.Down(a, n)) || !slices.Equal(r, twos.Low(a, n)) {
				t.Fatalf("Div(%d, 2^%d): %d, %d, %v", a, n, q, r, ok)
			}
		}
	}
}

// What is asked costs no more than the numbers are long, however many noughts stand at the end.
func TestNoughtsAtTheEndAreCheap(t *testing.T) {
	many := repeat(0, 1000000)
	a, b := behind(list{7, 8, 9}, many...), behind(list{5, 6}, many...)
	wantq, wantr, _ := Div(list{7, 8, 9}, list{5, 6})
	if q, r, ok := Div(a, b); !ok || !slices.Equal(q, wantq) || !slices.Equal(r, wantr) {
		t.Errorf("Div: %d, %d, %v; want %d, %d", q, r, ok, wantq, wantr)
	}
	if q, r, ok := Div(b, a); !ok || len(q) != 0 || !slices.Equal(r, list{5, 6}) {
		t.Errorf("Div: %d, %d, %v", q, r, ok)
	}
	if q, ok := Exact(a, a); !ok || !slices.Equal(q, list{1}) {
		t.Errorf("Exact: %d, %v", q, ok)
	}
	if q, r, ok := Word(b, 1); !ok || !slices.Equal(q, list{5, 6}) || r != 0 {
		t.Errorf("Word: %d, %d, %v", q, r, ok)
	}
}

// Each of these answers its lists, two or one, and what it tells besides, as a list of its own.
var answers = []struct {
	name string
	of   func(a, b list) (q, r, more list)
}{
	{"Word", func(a, b list) (q, r, more list) {
		q, w, ok := Word(a, last(b))
		return q, nil, list{w, bit(ok)}
	}},
	{"Word by 1", func(a, b list) (q, r, more list) {
		q, w, ok := Word(a, 1)
		return q, nil, list{w, bit(ok)}
	}},
	{"Div", func(a, b list) (q, r, more list) {
		q, r, ok := Div(a, b)
		return q, r, list{bit(ok)}
	}},
	{"Div the other way", func(a, b list) (q, r, more list) {
		q, r, ok := Div(b, a)
		return q, r, list{bit(ok)}
	}},
	{"Div by itself", func(a, b list) (q, r, more list) {
		q, r, ok := Div(a, a)
		return q, r, list{bit(ok)}
	}},
	{"Div by 1", func(a, b list) (q, r, more list) {
		q, r, ok := Div(a, list{1})
		return q, r, list{bit(ok)}
	}},
	{"Exact", func(a, b list) (q, r, more list) {
		q, ok := Exact(a, b)
		return q, nil, list{bit(ok)}
	}},
	{"Exact by itself", func(a, b list) (q, r, more list) {
		q, ok := Exact(a, a)
		return q, nil, list{bit(ok)}
	}},
	{"Exact by 1", func(a, b list) (q, r, more list) {
		q, ok := Exact(a, list{1})
		return q, nil, list{bit(ok)}
	}},
}

func bit(ok bool) uint32 {
	if ok {
		return 1
	}
	return 0
}

// last makes a word of a list, so that Word can be asked about pairs of lists, too.
func last(b list) uint32 {
	if len(b) == 0 {
		return 0
	}
	return b[len(b)-1]
}

// lend hands out a with spare room behind it, whose words show who wrote there, or who read.
func lend(a list, fill uint32) list { return behind(a, fill, fill, fill)[:len(a)] }

func room(a list) list { return a[:cap(a)] }

func turnOver(a list) {
	for i := range room(a) {
		room(a)[i] = ^room(a)[i]
	}
}

func TestWhatIsHandedInIsLeft(t *testing.T) {
	for _, c := range answers {
		for _, a := range lists() {
			for _, b := range lists() {
				x, y := lend(a, greatest), lend(b, 1)
				beforeX, beforeY := slices.Clone(room(x)), slices.Clone(room(y))
				q, r, _ := c.of(x, y)
				if !slices.Equal(room(x), beforeX) || !slices.Equal(room(y), beforeY) {
					t.Fatalf("%s of %d, %d: made of them %d, %d", c.name, a, b, room(x), room(y))
				}
				// An answer that shares memory with an argument, spare room too, shows when it is written over.
				turnOver(q)
				turnOver(r)
				if !slices.Equal(room(x), beforeX) || !slices.Equal(room(y), beforeY) {
					t.Fatalf("%s of %d, %d: an answer is theirs", c.name, a, b)
				}
			}
		}
	}
}

func TestNothingBehindTheLengthIsRead(t *testing.T) {
	for _, c := range answers {
		for _, a := range lists() {
			for _, b := range lists() {
				wantq, wantr, want := c.of(slices.Clip(slices.Clone(a)), slices.Clip(slices.Clone(b)))
				q, r, more := c.of(lend(a, greatest), lend(b, 1))
				if !slices.Equal(q, wantq) || !slices.Equal(r, wantr) || !slices.Equal(more, want) {
					t.Fatalf("%s of %d, %d: %d, %d, %d; want %d, %d, %d", c.name, a, b, q, r, more, wantq, wantr, want)
				}
			}
		}
	}
}

func TestAnswersShareNothing(t *testing.T) {
	for _, c := range answers {
		for _, a := range lists() {
			for _, b := range lists() {
				q, r, more := c.of(a, b)
				wantq, wantr := slices.Clone(q), slices.Clone(room(r))
				turnOver(q)
				if !slices.Equal(room(r), wantr) {
					t.Fatalf("%s of %d, %d: quotient and rest are one", c.name, a, b)
				}
				wantr = slices.Clone(r)
				turnOver(r)
				q, r, again := c.of(a, b)
				if !slices.Equal(q, wantq) || !slices.Equal(r, wantr) || !slices.Equal(again, more) {
					t.Fatalf("%s of %d, %d: %d, %d, %d, then %d, %d, %d", c.name, a, b, wantq, wantr, more, q, r, again)
				}
			}
		}
	}
}

func TestAnswersAreRight(t *testing.T) {
	for _, c := range answers {
		for _, a := range lists() {
			for _, b := range lists() {
				if q, r, _ := c.of(a, b); !right(q) || !right(r) {
					t.Fatalf("%s of %d, %d: %d, %d", c.name, a, b, q, r)
				}
			}
		}
	}
}

func TestAListThatIsNotRightTellsTheSame(t *testing.T) {
	for _, a := range lists() {
		for _, b := range lists() {
			wantq, wantr, want := Div(nat.Norm(a), nat.Norm(b))
			wante, exact := Exact(nat.Norm(a), nat.Norm(b))
			wantw, wantv, word := Word(nat.Norm(a), last(b))
			for _, n := range []int{1, 2, 9} {
				x, y := behind(a, repeat(0, n)...), behind(b, repeat(0, 10-n)...)
				if q, r, ok := Div(x, y); !slices.Equal(q, wantq) || !slices.Equal(r, wantr) || ok != want {
					t.Fatalf("Div(%d, %d): %d, %d, %v; want %d, %d, %v", x, y, q, r, ok, wantq, wantr, want)
				}
				if q, ok := Exact(x, y); !slices.Equal(q, wante) || ok != exact {
					t.Fatalf("Exact(%d, %d): %d, %v; want %d, %v", x, y, q, ok, wante, exact)
				}
				if q, r, ok := Word(x, last(b)); !slices.Equal(q, wantw) || r != wantv || ok != word {
					t.Fatalf("Word(%d, %d): %d, %d, %v; want %d, %d, %v", x, last(b), q, r, ok, wantw, wantv, word)
				}
			}
		}
	}
}

func TestExamples(t *testing.T) {
	if q, r, ok := Div(nat.Of(7), nat.Of(2)); !ok || !slices.Equal(q, list{3}) || !slices.Equal(r, list{1}) {
		t.Error(q, r, ok)
	}
	if q, ok := Exact(nat.Of(6), nat.Of(3)); !ok || !slices.Equal(q, list{2}) {
		t.Error(q, ok)
	}
	if q, ok := Exact(nat.Of(7), nat.Of(3)); ok || len(q) != 0 {
		t.Error(q, ok)
	}
	if q, r, ok := Div(nat.Of(1), nat.Of(0)); ok || len(q) != 0 || len(r) != 0 {
		t.Error(q, r, ok)
	}
}
