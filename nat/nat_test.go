package nat

import (
	"math/big"
	"slices"
	"testing"
)

const greatest = 0xffffffff

type words = []uint32

// At these lists lengths, carries and borrows change; some have noughts at the end, so they are not right.
func edges() []words {
	return []words{
		nil, {}, {0}, {0, 0, 0},
		{1}, {1, 0}, {1, 0, 0, 0}, {2}, {0x7fffffff}, {0x80000000}, {0xfffffffe}, {greatest}, {greatest, 0},
		{0, 1}, {1, 1}, {0, 1, 0}, {greatest, 1}, {0, greatest}, {0xfffffffe, greatest}, {greatest, greatest}, {greatest, greatest, 0, 0},
		{0, 0, 1}, {1, 0, 1}, {0, 0, 1, 0}, {greatest, 0, 1}, {greatest, greatest, greatest}, {0, 0, 0, 1},
		{5, 0, 7}, {5, 0, 7, 0}, {6, 0, 7}, {5, 1, 7}, {5, 0, 8},
		{greatest, greatest, greatest, greatest, greatest}, {0, 0, 0, 0, 0, 1}, {0, 0, 0, 0, 0, greatest},
	}
}

// What fails on one of the lists without a pattern must fail again, so they are always the same ones.
func lists() []words {
	l := edges()
	x := uint32(2463534242)
	for n := range 12 {
		a := make(words, n%7)
		for i := range a {
			x ^= x << 13
			x ^= x >> 17
			x ^= x << 5
			a[i] = x
		}
		l = append(l, a)
	}
	return l
}

func value(a words) *big.Int {
	n := new(big.Int)
	for i, w := range a {
		at := new(big.Int).SetUint64(uint64(w))
		n.Add(n, at.Lsh(at, uint(32*i)))
	}
	return n
}

// rightList tells the one right list of n in another way than package nat makes it.
func rightList(n *big.Int) words {
	var l words
	base := new(big.Int).Lsh(big.NewInt(1), 32)
	for n = new(big.Int).Set(n); n.Sign() > 0; {
		w := new(big.Int)
		n.DivMod(n, base, w)
		l = append(l, uint32(w.Uint64()))
	}
	return l
}

func repeat(w uint32, n int) words { return slices.Repeat(words{w}, n) }

func behind(a words, w ...uint32) words { return append(slices.Clone(a), w...) }

func TestNormTable(t *testing.T) {
	for i, c := range []struct{ a, want words }{
		{nil, nil},
		{words{}, nil},
		{words{0}, nil},
		{words{0, 0, 0, 0}, nil},
		{words{7}, words{7}},
		{words{7, 0}, words{7}},
		{words{0, 7}, words{0, 7}},
		{words{0, 7, 0, 0}, words{0, 7}},
		{words{1, 0, 2, 0, 3}, words{1, 0, 2, 0, 3}},
		{words{greatest, greatest, 0}, words{greatest, greatest}},
		{behind(words{7}, repeat(0, 1000)...), words{7}},
		{behind(repeat(0, 1000), 7), behind(repeat(0, 1000), 7)},
	} {
		if got := Norm(c.a); !slices.Equal(got, c.want) {
			t.Errorf("%d: Norm(%d): %d; want %d", i, c.a, got, c.want)
		}
	}
}

func TestNormIsTheRightList(t *testing.T) {
	for _, a := range lists() {
		if got, want := Norm(a), rightList(value(a)); !slices.Equal(got, want) {
			t.Errorf("Norm(%d): %d; want %d", a, got, want)
		}
	}
}

func TestOfTable(t *testing.T) {
	for i, c := range []struct {
		n    uint64
		want words
	}{
		{0, nil},
		{1, words{1}},
		{greatest, words{greatest}},
		{1 << 32, words{0, 1}},
		{1<<32 + 1, words{1, 1}},
		{2<<32 - 1, words{greatest, 1}},
		{5<<32 + 6, words{6, 5}},
		{1 << 63, words{0, 0x80000000}},
		{1<<64 - 1<<32, words{0, greatest}},
		{1<<64 - 1, words{greatest, greatest}},
	} {
		if got := Of(c.n); !slices.Equal(got, c.want) {
			t.Errorf("%d: Of(%d): %d; want %d", i, c.n, got, c.want)
		}
	}
}

func TestSmallTable(t *testing.T) {
	for i, c := range []struct {
		a    words
		want uint64
		ok   bool
	}{
		{nil, 0, true},
		{words{}, 0, true},
		{words{0}, 0, true},
		{words{0, 0, 0, 0}, 0, true},
		{words{7}, 7, true},
		{words{7, 0, 0, 0}, 7, true},
		{words{greatest}, greatest, true},
		{words{0, 1}, 1 << 32, true},
		{words{6, 5}, 5<<32 + 6, true},
		{words{6, 5, 0, 0, 0}, 5<<32 + 6, true},
		{words{greatest, greatest}, 1<<64 - 1, true},
		{words{greatest, greatest, 0}, 1<<64 - 1, true},
		{words{0, 0, 1}, 0, false},
		{words{7, 0, 1}, 0, false},
		{words{7, 8, 9, 0}, 0, false},
		{words{7, 0, 0, 1}, 0, false},
		{words{greatest, greatest, greatest}, 0, false},
		{behind(repeat(0, 1000), 1), 0, false},
		{behind(words{7}, repeat(0, 1000)...), 7, true},
	} {
		if got, ok := Small(c.a); got != c.want || ok != c.ok {
			t.Errorf("%d: Small(%d): %d, %v; want %d, %v", i, c.a, got, ok, c.want, c.ok)
		}
	}
}

func TestSmallIsTheValue(t *testing.T) {
	for _, a := range lists() {
		v := value(a)
		got, ok := Small(a)
		if ok != v.IsUint64() {
			t.Errorf("Small(%d): %d, %v", a, got, ok)
		}
		if ok && got != v.Uint64() || !ok && got != 0 {
			t.Errorf("Small(%d): %d; want %v", a, got, v)
		}
	}
}

func TestZero(t *testing.T) {
	for i, a := range []words{nil, {}, {0}, {0, 0}, repeat(0, 1000)} {
		if !Zero(a) {
			t.Errorf("%d: Zero(%d): false", i, a)
		}
	}
	for i, a := range []words{{1}, {1, 0}, {0, 1}, {0, 1, 0}, {greatest}, {0, 0, 0x80000000}, behind(repeat(0, 1000), 1)} {
		if Zero(a) {
			t.Errorf("%d: Zero(%d): true", i, a)
		}
	}
	for _, a := range lists() {
		if got := Zero(a); got != (value(a).Sign() == 0) {
			t.Errorf("Zero(%d): %v", a, got)
		}
	}
}

func TestCmpTable(t *testing.T) {
	for i, c := range []struct {
		a, b words
		want int
	}{
		{nil, nil, 0},
		{nil, words{}, 0},
		{nil, words{0, 0}, 0},
		{nil, words{1}, -1},
		{words{0, 0, 0}, words{1}, -1},
		{words{3}, words{4}, -1},
		{words{3}, words{3}, 0},
		{words{3}, words{3, 0, 0}, 0},
		{words{3, 0, 0}, words{4}, -1},
		{words{4}, words{3, 0, 0}, 1},
		{words{greatest}, words{0, 1}, -1},
		{words{greatest, greatest}, words{0, 0, 1}, -1},
		{words{0x80000000}, words{0x7fffffff}, 1},
		{words{greatest}, words{1}, 1},
		{words{9, 1}, words{1, 9}, -1},
		{words{0, 1, 5}, words{9, 0, 5}, 1},
		{words{7, 1, 5}, words{8, 1, 5}, -1},
		{words{1, 1, 5}, words{1, 1, 5}, 0},
		{behind(words{1}, repeat(9, 1000)...), behind(words{2}, repeat(9, 1000)...), -1},
	} {
		if got := Cmp(c.a, c.b); got != c.want {
			t.Errorf("%d: Cmp(%d, %d): %d; want %d", i, c.a, c.b, got, c.want)
		}
		if got := Cmp(c.b, c.a); got != -c.want {
			t.Errorf("%d: Cmp(%d, %d): %d; want %d", i, c.b, c.a, got, -c.want)
		}
	}
}

func TestCmpIsTheOrder(t *testing.T) {
	for _, a := range lists() {
		for _, b := range lists() {
			if got, want := Cmp(a, b), value(a).Cmp(value(b)); got != want {
				t.Errorf("Cmp(%d, %d): %d; want %d", a, b, got, want)
			}
		}
	}
}

func TestAddTable(t *testing.T) {
	for i, c := range []struct {
		l    []words
		want words
	}{
		{nil, nil},
		{[]words{}, nil},
		{[]words{nil}, nil},
		{[]words{nil, {}, {0}, {0, 0}}, nil},
		{[]words{{7}}, words{7}},
		{[]words{{7, 8, 0, 0}}, words{7, 8}},
		{[]words{{1}, {2}}, words{3}},
		{[]words{{1}, nil, {2}, {0, 0, 0}}, words{3}},
		{[]words{{greatest}, {1}}, words{0, 1}},
		{[]words{{greatest}, {greatest}}, words{0xfffffffe, 1}},
		{[]words{{greatest}, {greatest}, {2}}, words{0, 2}},
		{[]words{{greatest}, {greatest}, {greatest}}, words{0xfffffffd, 2}},
		{[]words{{1}, {0, 1}, {0, 0, 1}}, words{1, 1, 1}},
		{[]words{{0, 0, 1}, {0, 1}, {1}}, words{1, 1, 1}},
		{[]words{{greatest, greatest}, {1}}, words{0, 0, 1}},
		{[]words{{1}, {greatest, greatest}}, words{0, 0, 1}},
		{[]words{{1, 0, 0, 0}, {greatest, greatest, 0}}, words{0, 0, 1}},
		{[]words{{greatest, 5}, {1}}, words{0, 6}},
		{[]words{{0, greatest}, {0, 1}}, words{0, 0, 1}},
		{[]words{{greatest, greatest, greatest, 7}, {1}}, words{0, 0, 0, 8}},
		{[]words{{greatest, greatest}, {greatest, greatest}}, words{0xfffffffe, greatest, 1}},
	} {
		if got := Add(c.l...); !slices.Equal(got, c.want) {
			t.Errorf("%d: Add(%d): %d; want %d", i, c.l, got, c.want)
		}
	}
}

func TestAddIsTheSum(t *testing.T) {
	for _, a := range lists() {
		for _, b := range lists() {
			for _, c := range edges() {
				want := new(big.Int).Add(value(a), value(b))
				want.Add(want, value(c))
				if got := Add(a, b, c); !slices.Equal(got, rightList(want)) {
					t.Fatalf("Add(%d, %d, %d): %d; want %v", a, b, c, got, want)
				}
			}
		}
	}
}

func TestAddOfOneIsItsRightList(t *testing.T) {
	for _, a := range lists() {
		if got := Add(a); !slices.Equal(got, rightList(value(a))) {
			t.Errorf("Add(%d): %d", a, got)
		}
	}
}

// The sum of so many words carries more than one into the next place, and again from there on.
func TestAddOfMany(t *testing.T) {
	for _, n := range []int{4, 1000, 70000} {
		for _, a := range []words{{greatest}, {greatest, greatest}, {0, greatest, 0}, {1}} {
			want := new(big.Int).Mul(value(a), big.NewInt(int64(n)))
			if got := Add(slices.Repeat([]words{a}, n)...); !slices.Equal(got, rightList(want)) {
				t.Errorf("Add of %d times %d: %d; want %v", n, a, got, want)
			}
		}
	}
	all := lists()
	want := new(big.Int)
	for _, a := range all {
		want.Add(want, value(a))
	}
	if got := Add(all...); !slices.Equal(got, rightList(want)) {
		t.Errorf("Add of all: %d; want %v", got, want)
	}
}

func TestCarryThroughManyWords(t *testing.T) {
	const n = 1000
	full, one, power := repeat(greatest, n), words{1}, behind(repeat(0, n), 1)
	if got := Add(full, one); !slices.Equal(got, power) {
		t.Error("Add at the long end", len(got))
	}
	if got := Add(one, full); !slices.Equal(got, power) {
		t.Error("Add at the short end", len(got))
	}
	if got := Add(behind(full, 7), one); !slices.Equal(got, behind(repeat(0, n), 8)) {
		t.Error("Add below a last word", len(got))
	}
	if got, ok := Sub(power, one); !ok || !slices.Equal(got, full) {
		t.Error("Sub", ok, len(got))
	}
	if got, ok := Sub(power, full); !ok || !slices.Equal(got, one) {
		t.Error("Sub to 1", ok, len(got))
	}
	if got, ok := Sub(behind(repeat(0, n), 8), one); !ok || !slices.Equal(got, behind(full, 7)) {
		t.Error("Sub below a last word", ok, len(got))
	}
	if got, c := Gap(one, power); c != -1 || !slices.Equal(got, full) {
		t.Error("Gap", c, len(got))
	}
	if got, ok := Sub(full, power); ok || len(got) != 0 {
		t.Error("Sub below 0", ok, len(got))
	}
}

func TestSubTable(t *testing.T) {
	for i, c := range []struct {
		a, b, want words
		ok         bool
	}{
		{nil, nil, nil, true},
		{nil, words{0, 0}, nil, true},
		{words{0}, nil, nil, true},
		{words{7}, nil, words{7}, true},
		{words{7, 0, 0}, nil, words{7}, true},
		{words{7, 0, 0}, words{0, 0, 0, 0, 0}, words{7}, true},
		{words{7}, words{2}, words{5}, true},
		{words{7, 8}, words{7, 8}, nil, true},
		{words{7, 8}, words{7, 8, 0, 0}, nil, true},
		{words{7, 8, 0, 0}, words{7, 8}, nil, true},
		{words{7, 8}, words{6, 8}, words{1}, true},
		{words{7, 8, 9}, words{7, 7, 9}, words{0, 1}, true},
		{words{0, 1}, words{1}, words{greatest}, true},
		{words{0, 1}, words{1, 0, 0}, words{greatest}, true},
		{words{0, 0, 1}, words{1}, words{greatest, greatest}, true},
		{words{0, 0, 1}, words{greatest, greatest}, words{1}, true},
		{words{0, 0, 7}, words{0, 1}, words{0, greatest, 6}, true},
		{words{0, 5, 7}, words{1}, words{greatest, 4, 7}, true},
		{words{0, 0, 5}, words{0, greatest, 4}, words{0, 1}, true},
		{words{0, 0, 5}, words{1, greatest, 4}, words{greatest}, true},
		{words{greatest, greatest}, words{greatest}, words{0, greatest}, true},
		{nil, words{1}, nil, false},
		{words{1}, words{2}, nil, false},
		{words{0, 0, 0}, words{1}, nil, false},
		{words{1, 0, 0}, words{2}, nil, false},
		{words{greatest}, words{0, 1}, nil, false},
		{words{greatest, 0, 0}, words{0, 1}, nil, false},
		{words{9, 1}, words{1, 9}, nil, false},
		{words{6, 8}, words{7, 8}, nil, false},
		{words{greatest, greatest}, words{0, 0, 1}, nil, false},
	} {
		if got, ok := Sub(c.a, c.b); !slices.Equal(got, c.want) || ok != c.ok {
			t.Errorf("%d: Sub(%d, %d): %d, %v; want %d, %v", i, c.a, c.b, got, ok, c.want, c.ok)
		}
	}
}

func TestGapTable(t *testing.T) {
	for i, c := range []struct {
		a, b, want words
		cmp        int
	}{
		{nil, nil, nil, 0},
		{nil, words{0, 0}, nil, 0},
		{words{7, 8, 0}, words{7, 8}, nil, 0},
		{words{1}, words{2}, words{1}, -1},
		{words{2}, words{1}, words{1}, 1},
		{nil, words{7, 0}, words{7}, -1},
		{words{7, 0}, nil, words{7}, 1},
		{words{0, 1}, words{1}, words{greatest}, 1},
		{words{1, 0, 0, 0}, words{0, 1}, words{greatest}, -1},
		{words{greatest, greatest}, words{0, 0, 1}, words{1}, -1},
		{words{0, 5, 7}, words{1}, words{greatest, 4, 7}, 1},
	} {
		if got, n := Gap(c.a, c.b); !slices.Equal(got, c.want) || n != c.cmp {
			t.Errorf("%d: Gap(%d, %d): %d, %d; want %d, %d", i, c.a, c.b, got, n, c.want, c.cmp)
		}
	}
}

func TestSubAndGapAreTheDifference(t *testing.T) {
	for _, a := range lists() {
		for _, b := range lists() {
			d := new(big.Int).Sub(value(a), value(b))
			want := rightList(new(big.Int).Abs(d))
			if got, c := Gap(a, b); !slices.Equal(got, want) || c != d.Sign() {
				t.Fatalf("Gap(%d, %d): %d, %d; want %d, %d", a, b, got, c, want, d.Sign())
			}
			if d.Sign() < 0 {
				want = nil
			}
			if got, ok := Sub(a, b); !slices.Equal(got, want) || ok != (d.Sign() >= 0) {
				t.Fatalf("Sub(%d, %d): %d, %v; want %d", a, b, got, ok, want)
			}
		}
	}
}

func TestSumsDontHangOnTheOrder(t *testing.T) {
	l := []words{{greatest, greatest, 0}, {1}, nil, {greatest}, {0, 0, 0, 5}, {1, greatest, greatest, greatest}}
	want := Add(l...)
	for range len(l) {
		l = append(l[1:], l[0])
		if got := Add(l...); !slices.Equal(got, want) {
			t.Errorf("Add(%d): %d; want %d", l, got, want)
		}
		back := slices.Clone(l)
		slices.Reverse(back)
		if got := Add(back...); !slices.Equal(got, want) {
			t.Errorf("Add(%d): %d; want %d", back, got, want)
		}
		if got := Add(Add(l[:2]...), Add(l[2:]...)); !slices.Equal(got, want) {
			t.Errorf("Add of two sums: %d; want %d", got, want)
		}
	}
}

func TestWhatIsAddedIsTakenAway(t *testing.T) {
	for _, a := range lists() {
		for _, b := range lists() {
			sum := Add(a, b)
			if got, ok := Sub(sum, b); !ok || !slices.Equal(got, Norm(a)) {
				t.Fatalf("Sub(Add(%d, %d), the second): %d, %v", a, b, got, ok)
			}
			if got, c := Gap(b, sum); c != -1 && !Zero(a) || !slices.Equal(got, Norm(a)) {
				t.Fatalf("Gap(the second, Add(%d, %d)): %d, %d", a, b, got, c)
			}
			gap, c := Gap(a, b)
			below, above := a, b
			if c > 0 {
				below, above = b, a
			}
			if got := Add(below, gap); !slices.Equal(got, Norm(above)) {
				t.Fatalf("Add of the lesser and Gap(%d, %d): %d", a, b, got)
			}
		}
	}
}

func TestNoOtherRightListTellsTheValue(t *testing.T) {
	for _, a := range lists() {
		for _, b := range lists() {
			same := slices.Equal(Norm(a), Norm(b))
			if same != (Cmp(a, b) == 0) || same != (value(a).Cmp(value(b)) == 0) {
				t.Errorf("%d and %d: %d and %d", a, b, Norm(a), Norm(b))
			}
		}
		if n, ok := Small(a); ok && !slices.Equal(Of(n), Norm(a)) {
			t.Errorf("Of(Small(%d)): %d", a, Of(n))
		}
	}
}

// Each of these answers a list made of both lists, or of one of them.
var answers = []struct {
	name string
	of   func(a, b words) words
}{
	{"Norm", func(a, b words) words { return Norm(a) }},
	{"Of", func(a, b words) words { return Of(value(a).Uint64()) }},
	{"Add of one", func(a, b words) words { return Add(a) }},
	{"Add", func(a, b words) words { return Add(a, b) }},
	{"Add of itself", func(a, b words) words { return Add(a, a, b, a) }},
	{"Sub", func(a, b words) words { d, _ := Sub(a, b); return d }},
	{"Sub of itself", func(a, b words) words { d, _ := Sub(a, a); return d }},
	{"Gap", func(a, b words) words { d, _ := Gap(a, b); return d }},
	{"Small, Zero, Cmp", func(a, b words) words {
		n, ok := Small(a)
		return Of(n ^ uint64(Cmp(a, b)+1)<<8 ^ uint64(bit(Zero(a)))<<16 ^ uint64(bit(ok))<<24)
	}},
}

func bit(yes bool) int {
	if yes {
		return 1
	}
	return 0
}

// lend hands out a with spare room behind it, whose words show who wrote there, or who read.
func lend(a words, fill uint32) words {
	return behind(a, fill, fill, fill)[:len(a)]
}

func room(a words) words { return a[:cap(a)] }

func TestWhatIsHandedInIsLeft(t *testing.T) {
	for _, c := range answers {
		for _, a := range lists() {
			for _, b := range lists() {
				x, y := lend(a, greatest), lend(b, 1)
				beforeX, beforeY := slices.Clone(room(x)), slices.Clone(room(y))
				got := c.of(x, y)
				if !slices.Equal(room(x), beforeX) || !slices.Equal(room(y), beforeY) {
					t.Fatalf("%s of %d, %d: made of them %d, %d", c.name, a, b, room(x), room(y))
				}
				// An answer that shares memory with an argument, spare room too, shows when it is written over.
				clear(room(got))
				if !slices.Equal(room(x), beforeX) || !slices.Equal(room(y), beforeY) {
					t.Fatalf("%s of %d, %d: the answer is theirs", c.name, a, b)
				}
			}
		}
	}
}

func TestAddLeavesTheListOfLists(t *testing.T) {
	spare := words{9, 9}
	l := []words{{greatest, 0}, {1}, spare}
	got := Add(l[:2]...)
	if !slices.Equal(got, words{0, 1}) {
		t.Errorf("read behind the length: %d", got)
	}
	if !slices.Equal(l[0], words{greatest, 0}) || !slices.Equal(l[1], words{1}) || !slices.Equal(l[2], words{9, 9}) {
		t.Errorf("left: %d", l)
	}
}

func TestNothingBehindTheLengthIsRead(t *testing.T) {
	for _, c := range answers {
		for _, a := range lists() {
			for _, b := range lists() {
				want := c.of(slices.Clip(slices.Clone(a)), slices.Clip(slices.Clone(b)))
				if got := c.of(lend(a, greatest), lend(b, 1)); !slices.Equal(got, want) {
					t.Fatalf("%s of %d, %d: %d; want %d", c.name, a, b, got, want)
				}
			}
		}
	}
}

func TestAnswersShareNothing(t *testing.T) {
	for _, c := range answers {
		for _, a := range lists() {
			for _, b := range edges() {
				first := c.of(a, b)
				want := slices.Clone(first)
				for i := range room(first) {
					room(first)[i] = ^room(first)[i]
				}
				if second := c.of(a, b); !slices.Equal(second, want) {
					t.Fatalf("%s of %d, %d: %d, then %d", c.name, a, b, want, second)
				}
			}
		}
	}
}

func TestAnswersAreRight(t *testing.T) {
	for _, c := range answers {
		for _, a := range lists() {
			for _, b := range lists() {
				if got := c.of(a, b); len(got) > 0 && got[len(got)-1] == 0 {
					t.Fatalf("%s of %d, %d: %d", c.name, a, b, got)
				}
			}
		}
	}
}

func TestExamples(t *testing.T) {
	if got := Of(4294967296); !slices.Equal(got, words{0, 1}) {
		t.Error(got)
	}
	if got := Add(Of(1), Of(2), Of(3)); !slices.Equal(got, words{6}) {
		t.Error(got)
	}
	if got, ok := Sub(Of(1), Of(2)); len(got) != 0 || ok {
		t.Error(got, ok)
	}
	if got, c := Gap(Of(1), Of(2)); !slices.Equal(got, words{1}) || c != -1 {
		t.Error(got, c)
	}
}
