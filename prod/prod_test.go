package prod

import (
	"math"
	"math/big"
	"slices"
	"testing"

	"retrospect/nat"
	"retrospect/twos"
)

const greatest = 0xffffffff

type list = []uint32

// At these lists lengths and carries change; some have noughts at the end, so they are not right.
func edges() []list {
	return []list{
		nil, {}, {0}, {0, 0, 0},
		{1}, {1, 0, 0}, {2}, {3}, {3, 0}, {0xffff}, {0x10000}, {0x10001}, {0x80000000}, {0xfffffffe}, {greatest}, {greatest, 0},
		{0, 1}, {1, 1}, {0, 1, 0}, {greatest, 1}, {0, greatest}, {0xfffffffe, greatest}, {greatest, greatest}, {greatest, greatest, 0, 0},
		{0, 0, 1}, {0, 0, 0x80000000}, {greatest, 0, greatest}, {greatest, greatest, greatest}, {0, 5, 0, 7, 0},
	}
}

func lists() []list {
	l := edges()
	// What fails on one of the lists without a pattern must fail again, so they are always the same ones.
	x := uint32(2463534242)
	for n := range 9 {
		a := make(list, n)
		for i := range a {
			x ^= x << 13
			x ^= x >> 17
			x ^= x << 5
			a[i] = x
		}
		l = append(l, a)
	}
	return l
}

func wordsAtEdges() []uint32 {
	return []uint32{0, 1, 2, 3, 0xffff, 0x10000, 0x7fffffff, 0x80000000, 0xfffffffe, greatest, 0x9e3779b9}
}

func value(a list) *big.Int {
	n := new(big.Int)
	for i, w := range a {
		at := new(big.Int).SetUint64(uint64(w))
		n.Add(n, at.Lsh(at, uint(32*i)))
	}
	return n
}

func right(a list) bool { return len(a) == 0 || a[len(a)-1] != 0 }

// is tells whether a is the right list of n.
func is(a list, n *big.Int) bool { return right(a) && value(a).Cmp(n) == 0 }

func behind(a list, w ...uint32) list { return append(slices.Clone(a), w...) }

func repeat(w uint32, n int) list { return slices.Repeat(list{w}, n) }

func TestWordTable(t *testing.T) {
	for i, c := range []struct {
		a    list
		x, c uint32
		want list
	}{
		{nil, 0, 0, nil},
		{list{}, 7, 0, nil},
		{list{0, 0, 0}, greatest, 0, nil},
		{nil, 7, 5, list{5}},
		{list{0, 0}, greatest, greatest, list{greatest}},
		{list{7}, 0, 0, nil},
		{list{7, 8, 9}, 0, 0, nil},
		{list{7, 8, 9}, 0, 5, list{5}},
		{list{7, 8, 9}, 0, greatest, list{greatest}},
		{list{7}, 1, 0, list{7}},
		{list{7, 8, 0, 0}, 1, 0, list{7, 8}},
		{list{7}, 6, 5, list{47}},
		{list{1}, greatest, 0, list{greatest}},
		{list{1}, greatest, 1, list{0, 1}},
		{list{1}, greatest, greatest, list{0xfffffffe, 1}},
		{list{greatest}, 1, 1, list{0, 1}},
		{list{greatest}, 2, 0, list{0xfffffffe, 1}},
		{list{greatest}, 2, 2, list{0, 2}},
		{list{greatest}, greatest, 0, list{1, 0xfffffffe}},
		{list{greatest}, greatest, greatest, list{0, greatest}},
		{list{greatest, 0, 0}, greatest, greatest, list{0, greatest}},
		{list{greatest, greatest}, greatest, greatest, list{0, 0, greatest}},
		{list{greatest, greatest}, 1, 1, list{0, 0, 1}},
		{list{0, 1}, 7, 6, list{6, 7}},
		{list{0, 0, 0x80000000}, 2, 1, list{1, 0, 0, 1}},
		{behind(repeat(greatest, 1000), 0), 1, 1, behind(repeat(0, 1000), 1)},
		{repeat(greatest, 1000), greatest, greatest, behind(repeat(0, 1000), greatest)},
	} {
		if got := Word(c.a, c.x, c.c); !slices.Equal(got, c.want) {
			t.Errorf("%d: Word(%d, %d, %d): %d; want %d", i, c.a, c.x, c.c, got, c.want)
		}
	}
}

func TestWordIsProductAndSum(t *testing.T) {
	for _, a := range lists() {
		for _, x := range wordsAtEdges() {
			for _, c := range wordsAtEdges() {
				want := new(big.Int).Mul(value(a), value(list{x}))
				want.Add(want, value(list{c}))
				if got := Word(a, x, c); !is(got, want) {
					t.Fatalf("Word(%d, %d, %d): %d; want %v", a, x, c, got, want)
				}
			}
		}
	}
}

func TestMulTable(t *testing.T) {
	for i, c := range []struct{ a, b, want list }{
		{nil, nil, nil},
		{nil, list{}, nil},
		{nil, list{7, 8, 9}, nil},
		{list{0, 0, 0}, list{7, 8, 9}, nil},
		{list{0}, list{0, 0}, nil},
		{list{1}, list{7, 8, 9}, list{7, 8, 9}},
		{list{1, 0, 0}, list{7, 8, 9, 0}, list{7, 8, 9}},
		{list{6}, list{7}, list{42}},
		{list{6, 0}, list{7, 0, 0}, list{42}},
		{list{0x10000}, list{0x10000}, list{0, 1}},
		{list{0x10000}, list{0xffff}, list{0xffff0000}},
		{list{0x10001}, list{0xffff}, list{greatest}},
		{list{greatest}, list{2}, list{0xfffffffe, 1}},
		{list{greatest}, list{greatest}, list{1, 0xfffffffe}},
		{list{0, 1}, list{7, 8}, list{0, 7, 8}},
		{list{0, 1}, list{0, 1}, list{0, 0, 1}},
		{list{0, 0, 3}, list{0, 5}, list{0, 0, 0, 15}},
		{list{1, 1}, list{1, 1}, list{1, 2, 1}},
		{list{greatest, greatest}, list{greatest}, list{1, greatest, 0xfffffffe}},
		{list{greatest, greatest}, list{greatest, greatest}, list{1, 0, 0xfffffffe, greatest}},
		{list{greatest, 0, greatest}, list{0, 2}, list{0, 0xfffffffe, 1, 0xfffffffe, 1}},
		{list{1, 2, 3}, list{4, 5}, list{4, 13, 22, 15}},
		{repeat(greatest, 200), repeat(greatest, 100), slices.Concat(list{1}, repeat(0, 99), repeat(greatest, 100), list{0xfffffffe}, repeat(greatest, 99))},
		{behind(repeat(0, 200), 3), behind(repeat(0, 100), 5), behind(repeat(0, 300), 15)},
	} {
		if got := Mul(c.a, c.b); !slices.Equal(got, c.want) {
			t.Errorf("%d: Mul(%d, %d): %d; want %d", i, c.a, c.b, got, c.want)
		}
		if got := Mul(c.b, c.a); !slices.Equal(got, c.want) {
			t.Errorf("%d: Mul(%d, %d): %d; want %d", i, c.b, c.a, got, c.want)
		}
	}
}

func TestMulAndAllAreTheProduct(t *testing.T) {
	for _, a := range lists() {
		for _, b := range lists() {
			want := new(big.Int).Mul(value(a), value(b))
			if got := Mul(a, b); !is(got, want) {
				t.Fatalf("Mul(%d, %d): %d; want %v", a, b, got, want)
			}
			if got := All(a, b); !is(got, want) {
				t.Fatalf("All(%d, %d): %d; want %v", a, b, got, want)
			}
			for _, c := range edges() {
				want := new(big.Int).Mul(want, value(c))
				if got := All(a, b, c); !is(got, want) {
					t.Fatalf("All(%d, %d, %d): %d; want %v", a, b, c, got, want)
				}
			}
		}
	}
}

// What is asked costs no more than the numbers are long, however many noughts stand at the end.
func TestNoughtsAtTheEndAreCheap(t *testing.T) {
	long := behind(list{3}, repeat(0, 1000000)...)
	for i, c := range []struct{ got, want list }{
		{Mul(long, long), list{9}},
		{Square(long), list{9}},
		{All(long, long, long), list{27}},
		{pow(long, 4), list{81}},
	} {
		if !slices.Equal(c.got, c.want) {
			t.Errorf("%d: %d words; want %d", i, len(c.got), c.want)
		}
	}
}

func TestSquareTable(t *testing.T) {
	for i, c := range []struct{ a, want list }{
		{nil, nil},
		{list{}, nil},
		{list{0, 0, 0}, nil},
		{list{1}, list{1}},
		{list{1, 0, 0}, list{1}},
		{list{7}, list{49}},
		{list{7, 0}, list{49}},
		{list{0xffff}, list{0xfffe0001}},
		{list{0x10000}, list{0, 1}},
		{list{greatest}, list{1, 0xfffffffe}},
		{list{0, 1}, list{0, 0, 1}},
		{list{1, 1}, list{1, 2, 1}},
		{list{1, 2, 3}, list{1, 4, 10, 12, 9}},
		{list{greatest, greatest}, list{1, 0, 0xfffffffe, greatest}},
		{list{greatest, greatest, greatest, 0}, list{1, 0, 0, 0xfffffffe, greatest, greatest}},
		{behind(repeat(0, 200), 3), behind(repeat(0, 400), 9)},
	} {
		if got := Square(c.a); !slices.Equal(got, c.want) {
			t.Errorf("%d: Square(%d): %d; want %d", i, c.a, got, c.want)
		}
	}
}

func TestAllTable(t *testing.T) {
	for i, c := range []struct {
		l    []list
		want list
	}{
		{nil, list{1}},
		{[]list{}, list{1}},
		{[]list{nil}, nil},
		{[]list{{0, 0}}, nil},
		{[]list{{1}}, list{1}},
		{[]list{{1, 0}}, list{1}},
		{[]list{{7}}, list{7}},
		{[]list{{7, 8, 0, 0}}, list{7, 8}},
		{[]list{{6}, {7}}, list{42}},
		{[]list{{1}, {1}, {1}}, list{1}},
		{[]list{{2}, {3}, {5}}, list{30}},
		{[]list{{2}, {3}, {5}, {7}}, list{210}},
		{[]list{{2, 0}, {3}, {5, 0, 0}, {7}, {11}}, list{2310}},
		{[]list{{2}, nil, {5}}, nil},
		{[]list{{0}, {3}, {5}}, nil},
		{[]list{{2}, {3}, {0, 0}}, nil},
		{[]list{nil, nil}, nil},
		{[]list{{0, 1}, {0, 1}, {0, 1}}, list{0, 0, 0, 1}},
		{[]list{{1, 1}, {1, 1}, {1, 1}}, list{1, 3, 3, 1}},
		{[]list{{greatest}, {greatest}, {greatest}}, list{greatest, 2, 0xfffffffd}},
	} {
		if got := All(c.l...); !slices.Equal(got, c.want) {
			t.Errorf("%d: All(%d): %d; want %d", i, c.l, got, c.want)
		}
	}
}

func TestAllOfMany(t *testing.T) {
	for _, n := range []int{9, 64, 65, 1000} {
		for _, a := range []list{{1}, {2}, {3, 0}, {greatest}, {0, 1}, {5, 7}} {
			want := new(big.Int).Exp(value(a), big.NewInt(int64(n)), nil)
			l := slices.Repeat([]list{a}, n)
			if got := All(l...); !is(got, want) {
				t.Fatalf("All of %d times %d: %d", n, a, got)
			}
			for _, i := range []int{0, n / 2, n - 1} {
				one := slices.Clone(l)
				one[i] = list{0, 0}
				if got := All(one...); len(got) != 0 {
					t.Fatalf("All of %d times %d, and 0: %d", n, a, got)
				}
			}
		}
	}
	// So many that each must be cheap, beside one that is long.
	ones := slices.Repeat([]list{{1}}, 200000)
	for _, i := range []int{0, len(ones) / 3, len(ones) - 1} {
		l, long := slices.Clone(ones), repeat(greatest, 20000)
		l[i] = long
		if got := All(l...); !slices.Equal(got, long) {
			t.Fatalf("All of 1 and a long list: %d words", len(got))
		}
	}
	want := new(big.Int).MulRange(1, 2000)
	var l []list
	for n := range uint32(2000) {
		l = append(l, list{n + 1})
	}
	if got := All(l...); !is(got, want) {
		t.Fatalf("All of 1 to 2000: %d", got)
	}
}

func TestPowTable(t *testing.T) {
	for i, c := range []struct {
		a    list
		e    int
		want list
		ok   bool
	}{
		{list{5}, -1, nil, false},
		{list{5}, math.MinInt, nil, false},
		{list{1}, -1, nil, false},
		{list{1}, math.MinInt, nil, false},
		{nil, -1, nil, false},
		{list{0, 0}, math.MinInt, nil, false},
		{nil, 0, list{1}, true},
		{list{}, 0, list{1}, true},
		{list{0, 0}, 0, list{1}, true},
		{list{1}, 0, list{1}, true},
		{list{7, 8}, 0, list{1}, true},
		{repeat(greatest, 5000), 0, list{1}, true},
		{nil, 1, nil, true},
		{list{0, 0}, 1, nil, true},
		{list{0}, 2, nil, true},
		{nil, 65536, nil, true},
		{nil, 65537, nil, true},
		{nil, 1 << 32, nil, true},
		{list{0, 0}, math.MaxInt, nil, true},
		{list{1}, 1, list{1}, true},
		{list{1, 0, 0}, 2, list{1}, true},
		{list{1}, 65536, list{1}, true},
		{list{1}, 65537, list{1}, true},
		{list{1}, 1 << 32, list{1}, true},
		{list{1, 0}, math.MaxInt, list{1}, true},
		{list{7}, 1, list{7}, true},
		{list{7, 8, 0, 0}, 1, list{7, 8}, true},
		{list{7}, 2, list{49}, true},
		{list{7, 0}, 3, list{343}, true},
		{list{2}, 10, list{1024}, true},
		{list{2}, 31, list{0x80000000}, true},
		{list{2}, 32, list{0, 1}, true},
		{list{3}, 20, list{3486784401}, true},
		{list{3}, 21, list{1870418611, 2}, true},
		{list{0, 1}, 5, list{0, 0, 0, 0, 0, 1}, true},
		{list{1, 1}, 4, list{1, 4, 6, 4, 1}, true},
		{list{2}, 32768, behind(repeat(0, 1024), 1), true},
		{list{2}, 32769, nil, false},
		{list{3}, 32769, nil, false},
		{list{2, 0, 0}, 32769, nil, false},
		{list{2}, math.MaxInt, nil, false},
		{list{4}, 21845, behind(repeat(0, 1365), 1<<10), true},
		{list{4}, 21846, nil, false},
		{list{0x80000000}, 2048, behind(repeat(0, 1984), 1), true},
		{list{0x80000000}, 2049, nil, false},
		{list{greatest}, 2049, nil, false},
		{list{0, 1}, 1985, behind(repeat(0, 1985), 1), true},
		{list{0, 1, 0}, 1985, behind(repeat(0, 1985), 1), true},
		{list{0, 1}, 1986, nil, false},
		{behind(repeat(0, 1023), 0x80000000), 2, behind(repeat(0, 2047), 0x40000000), true},
		{behind(repeat(0, 1023), 0x80000000), 3, nil, false},
		{behind(repeat(0, 1024), 1), 1, behind(repeat(0, 1024), 1), true},
		{behind(repeat(0, 1024), 1), 2, nil, false},
		{repeat(greatest, 2048), 1, repeat(greatest, 2048), true},
		{repeat(greatest, 2048), 2, nil, false},
		{behind(repeat(greatest, 2048), 0, 0), 1, repeat(greatest, 2048), true},
		{behind(repeat(greatest, 2048), 1), 1, nil, false},
		{behind(repeat(greatest, 2048), 1), 0, list{1}, true},
		{behind(repeat(greatest, 2048), 1), math.MaxInt, nil, false},
	} {
		if got, ok := Pow(c.a, c.e); !slices.Equal(got, c.want) || ok != c.ok {
			t.Errorf("%d: Pow(%d, %d): %d, %v; want %d, %v", i, c.a, c.e, got, ok, c.want, c.ok)
		}
	}
}

func TestPowIsThePower(t *testing.T) {
	for _, a := range lists() {
		for e := range 40 {
			want := new(big.Int).Exp(value(a), big.NewInt(int64(e)), nil)
			if got, ok := Pow(a, e); !ok || !is(got, want) {
				t.Fatalf("Pow(%d, %d): %d, %v; want %v", a, e, got, ok, want)
			}
		}
	}
}

func TestPowJustAtItsBound(t *testing.T) {
	for _, a := range append(lists(), list{5}, list{1 << 16}, list{77, 1 << 9}, repeat(greatest, 100), repeat(greatest, 2048)) {
		n := value(a)
		if n.BitLen() < 2 {
			continue
		}
		bound := 65536 / n.BitLen()
		want := new(big.Int).Exp(n, big.NewInt(int64(bound)), nil)
		if got, ok := Pow(a, bound); !ok || !is(got, want) {
			t.Errorf("Pow(%d, %d): %d words, %v", a, bound, len(got), ok)
		}
		for _, e := range []int{bound + 1, bound + 2, 65536, 65537, math.MaxInt32, math.MaxUint32 + 1, math.MaxInt - 1, math.MaxInt} {
			if got, ok := Pow(a, e); ok || len(got) != 0 {
				t.Errorf("Pow(%d, %d): %d words, %v", a, e, len(got), ok)
			}
		}
	}
}

func TestPowBelowNone(t *testing.T) {
	for _, a := range lists() {
		for _, e := range []int{-1, -2, -65536, math.MinInt32, math.MinInt + 1, math.MinInt} {
			if got, ok := Pow(a, e); ok || len(got) != 0 {
				t.Errorf("Pow(%d, %d): %d, %v", a, e, got, ok)
			}
		}
	}
}

func TestProductsDontHangOnTheOrder(t *testing.T) {
	for _, a := range lists() {
		for _, b := range lists() {
			if got, want := Mul(a, b), Mul(b, a); !slices.Equal(got, want) {
				t.Fatalf("Mul(%d, %d): %d; the other way %d", a, b, got, want)
			}
		}
	}
	l := []list{{greatest, greatest, 0}, {1}, {7}, {greatest}, {0, 0, 0, 5}, {1, greatest, greatest, greatest}, {9, 0, 0}}
	want := All(l...)
	for range len(l) {
		l = append(l[1:], l[0])
		if got := All(l...); !slices.Equal(got, want) {
			t.Errorf("All(%d): %d; want %d", l, got, want)
		}
		back := slices.Clone(l)
		slices.Reverse(back)
		if got := All(back...); !slices.Equal(got, want) {
			t.Errorf("All(%d): %d; want %d", back, got, want)
		}
		for i := range l {
			if got := Mul(All(l[:i]...), All(l[i:]...)); !slices.Equal(got, want) {
				t.Errorf("Mul of the first %d and the others of %d: %d; want %d", i, l, got, want)
			}
		}
	}
}

func TestProductsAreSharedOutOverSums(t *testing.T) {
	for _, a := range lists() {
		for _, b := range lists() {
			for _, c := range edges() {
				if got, want := Mul(a, nat.Add(b, c)), nat.Add(Mul(a, b), Mul(a, c)); !slices.Equal(got, want) {
					t.Fatalf("Mul(%d, %d + %d): %d; of each %d", a, b, c, got, want)
				}
			}
		}
	}
}

func TestPowersAreMultipliedByAddingExponents(t *testing.T) {
	pow := func(a list, e int) list {
		p, ok := Pow(a, e)
		if !ok {
			t.Fatalf("Pow(%d, %d): none", a, e)
		}
		return p
	}
	for _, a := range lists() {
		for e := range 14 {
			for f := range 14 {
				if got, want := Mul(pow(a, e), pow(a, f)), pow(a, e+f); !slices.Equal(got, want) {
					t.Fatalf("Pow(%d, %d) times Pow of %d: %d; want %d", a, e, f, got, want)
				}
			}
			if got, want := All(slices.Repeat([]list{a}, e)...), pow(a, e); !slices.Equal(got, want) {
				t.Fatalf("%d times %d: All %d, Pow %d", e, a, got, want)
			}
		}
	}
}

func TestASquareIsAProduct(t *testing.T) {
	for _, a := range append(lists(), repeat(greatest, 100), behind(repeat(0xdeadbeef, 99), 0, 3, 0)) {
		want := Mul(a, a)
		if got := Square(a); !slices.Equal(got, want) || !is(got, new(big.Int).Mul(value(a), value(a))) {
			t.Errorf("Square(%d): %d; Mul %d", a, got, want)
		}
		if got, ok := Pow(a, 2); !ok || !slices.Equal(got, want) {
			t.Errorf("Pow(%d, 2): %d, %v; Mul %d", a, got, ok, want)
		}
	}
}

func TestAWordIsAFactorAndAList(t *testing.T) {
	for _, a := range lists() {
		for _, x := range wordsAtEdges() {
			if got, want := Word(a, x, 0), Mul(a, list{x}); !slices.Equal(got, want) {
				t.Fatalf("Word(%d, %d, 0): %d; Mul %d", a, x, got, want)
			}
		}
		for n := range 32 {
			if got, want := Word(a, 1<<n, 0), twos.Up(a, n); !slices.Equal(got, want) {
				t.Fatalf("Word(%d, 2^%d, 0): %d; Up %d", a, n, got, want)
			}
		}
	}
}

// last makes a word of a list, so that Word and Pow can be asked about pairs of lists, too.
func last(b list) uint32 {
	if len(b) == 0 {
		return 0
	}
	return b[len(b)-1]
}

// Each of these answers a list made of both lists, or of one of them.
var answers = []struct {
	name string
	of   func(a, b list) list
}{
	{"Word", func(a, b list) list { return Word(a, last(b), greatest) }},
	{"Word by 1", func(a, b list) list { return Word(a, 1, 0) }},
	{"Word by 0", func(a, b list) list { return Word(a, 0, last(b)) }},
	{"Mul", Mul},
	{"Mul by 1", func(a, b list) list { return Mul(a, list{1}) }},
	{"Mul of itself", func(a, b list) list { return Mul(a, a) }},
	{"Square", func(a, b list) list { return Square(a) }},
	{"All of none", func(a, b list) list { return All() }},
	{"All of one", func(a, b list) list { return All(a) }},
	{"All", func(a, b list) list { return All(a, b) }},
	{"All of itself", func(a, b list) list { return All(a, a, b, a) }},
	{"Pow to 0", func(a, b list) list { return pow(a, 0) }},
	{"Pow to 1", func(a, b list) list { return pow(a, 1) }},
	{"Pow", func(a, b list) list { return pow(a, int(last(b)%8)) }},
	{"Pow to none", func(a, b list) list { return pow(a, -1) }},
}

func pow(a list, e int) list { p, _ := Pow(a, e); return p }

// lend hands out a with spare room behind it, whose words show who wrote there, or who read.
func lend(a list, fill uint32) list { return behind(a, fill, fill, fill)[:len(a)] }

func room(a list) list { return a[:cap(a)] }

func turnOver(a list) {
	for i := range room(a) {
		room(a)[i] = ^room(a)[i]
	}
}

func TestWhatIsHandedInIsLeft(t *testing.T) {
	for _, c := range answers {
		for _, a := range lists() {
			for _, b := range lists() {
				x, y := lend(a, greatest), lend(b, 1)
				beforeX, beforeY := slices.Clone(room(x)), slices.Clone(room(y))
				got := c.of(x, y)
				if !slices.Equal(room(x), beforeX) || !slices.Equal(room(y), beforeY) {
					t.Fatalf("%s of %d, %d: made of them %d, %d", c.name, a, b, room(x), room(y))
				}
				// An answer that shares memory with an argument, spare room too, shows when it is written over.
				turnOver(got)
				if !slices.Equal(room(x), beforeX) || !slices.Equal(room(y), beforeY) {
					t.Fatalf("%s of %d, %d: the answer is theirs", c.name, a, b)
				}
			}
		}
	}
}

func TestAllLeavesTheListOfLists(t *testing.T) {
	l := []list{{2, 0}, {3}, {5}, {9, 9}}
	if got := All(l[:3]...); !slices.Equal(got, list{30}) {
		t.Errorf("read behind the length: %d", got)
	}
	for i, want := range []list{{2, 0}, {3}, {5}, {9, 9}} {
		if !slices.Equal(l[i], want) {
			t.Errorf("left: %d", l)
		}
	}
}

func TestNothingBehindTheLengthIsRead(t *testing.T) {
	for _, c := range answers {
		for _, a := range lists() {
			for _, b := range lists() {
				want := c.of(slices.Clip(slices.Clone(a)), slices.Clip(slices.Clone(b)))
				if got := c.of(lend(a, greatest), lend(b, 1)); !slices.Equal(got, want) {
					t.Fatalf("%s of %d, %d: %d; want %d", c.name, a, b, got, want)
				}
			}
		}
	}
}

func TestAnswersShareNothing(t *testing.T) {
	for _, c := range answers {
		for _, a := range lists() {
			for _, b := range edges() {
				first := c.of(a, b)
				want := slices.Clone(first)
				turnOver(first)
				if second := c.of(a, b); !slices.Equal(second, want) {
					t.Fatalf("%s of %d, %d: %d, then %d", c.name, a, b, want, second)
				}
			}
		}
	}
}

func TestAnswersAreRight(t *testing.T) {
	for _, c := range answers {
		for _, a := range lists() {
			for _, b := range lists() {
				if got := c.of(a, b); !right(got) {
					t.Fatalf("%s of %d, %d: %d", c.name, a, b, got)
				}
			}
		}
	}
}

func TestAListThatIsNotRightTellsTheSame(t *testing.T) {
	for _, c := range answers {
		for _, a := range lists() {
			want := c.of(nat.Norm(a), list{3})
			for _, noughts := range []int{1, 2, 9, 3000} {
				if got := c.of(behind(a, repeat(0, noughts)...), list{3}); !slices.Equal(got, want) {
					t.Fatalf("%s of %d and %d noughts: %d; want %d", c.name, a, noughts, got, want)
				}
			}
		}
	}
}

func TestExamples(t *testing.T) {
	if a := Mul(nat.Of(4294967295), nat.Of(4294967295)); !slices.Equal(a, list{1, 4294967294}) {
		t.Error(a)
	}
	if a, ok := Pow(nat.Of(2), 10); !ok || !slices.Equal(a, list{1024}) {
		t.Error(a, ok)
	}
	if a, ok := Pow(nat.Of(0), 0); !ok || !slices.Equal(a, list{1}) {
		t.Error(a, ok)
	}
	if a, ok := Pow(nat.Of(5), -1); ok || len(a) != 0 {
		t.Error(a, ok)
	}
}
