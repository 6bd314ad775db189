package twos

import (
	"fmt"
	"math"
	"math/big"
	"slices"
	"strings"
	"testing"

	"retrospect/api"
	"retrospect/nat"
)

const greatest = 0xffffffff

type list = []uint32

// digits writes the bits of a as the chapter tells what they are, the highest one first; 0 has none.
func digits(a list) string {
	var b strings.Builder
	for _, w := range slices.Backward(a) {
		fmt.Fprintf(&b, "%032b", w)
	}
	return strings.TrimLeft(b.String(), "0")
}

func value(t *testing.T, a list) *big.Int {
	t.Helper()
	n, ok := new(big.Int).SetString("0"+digits(a), 2)
	if !ok {
		t.Fatalf("%d has no value", a)
	}
	return n
}

func right(a list) bool { return len(a) == 0 || a[len(a)-1] != 0 }

func behind(a list, w ...uint32) list { return append(slices.Clone(a), w...) }

func repeat(w uint32, n int) list { return slices.Repeat(list{w}, n) }

// power is 2^p, one word after the other.
func power(p int) list {
	a := make(list, p/32+1)
	a[p/32] = 1 << (p % 32)
	return a
}

// plain has words without a pattern, all of whose bits count, so that a bit in a wrong place shows.
func plain() list {
	return list{0x9e3779b9, 0x7f4a7c15, 0xf39cc060, 0x5cedc834, 0x2767f0b1, 0x53d27e9b}
}

// In these lists the places of the first and the last bit lie on both sides of each end of a word; some have noughts at the end, so they are not right.
func lists() []list {
	l := []list{
		nil, {}, {0}, {0, 0, 0},
		{8}, {13}, {13, 0}, {8, 0, 0, 0}, {greatest}, {greatest, 0}, {greatest, greatest}, {greatest, greatest, greatest},
		{0, greatest, 0}, {greatest, 0, greatest}, {greatest, 0, 0, 1}, {1, 0, 0, 0x80000000},
		{0, 0, 5}, {0, 0, 0x60000000, 7, 0}, {0, 0xaaaaaaaa}, {0x55555555, 0xaaaaaaaa, 0x55555555},
		plain(), behind(plain(), 0, 0), append(list{0, 0}, plain()...),
	}
	for _, p := range []int{0, 1, 2, 16, 30, 31, 32, 33, 62, 63, 64, 65, 95, 96, 128} {
		low, _ := nat.Sub(power(p), list{1})
		l = append(l, power(p), behind(power(p), 0), low, nat.Add(power(p), list{1}))
	}
	return l
}

// ns are numbers of places: below 0 down to the least int, of whole words, between them, and above all that the lists have, up to the greatest int.
func ns() []int {
	l := []int{math.MinInt, math.MinInt + 1, math.MinInt32, -64, -33, -32, -31, -1}
	for n := range 200 {
		l = append(l, n)
	}
	return append(l, 223, 224, 255, 256, 257, 1000, 4095, 4096, 4097, 4128, math.MaxInt32, math.MaxInt32+1, math.MaxUint32, 1<<37, math.MaxInt-31, math.MaxInt-1, math.MaxInt)
}

func TestLenAndZerosTable(t *testing.T) {
	for i, c := range []struct {
		a          list
		len, zeros int
	}{
		{nil, 0, 0},
		{list{}, 0, 0},
		{list{0}, 0, 0},
		{list{0, 0, 0, 0}, 0, 0},
		{repeat(0, 1000), 0, 0},
		{list{1}, 1, 0},
		{list{1, 0}, 1, 0},
		{list{2}, 2, 1},
		{list{8}, 4, 3},
		{list{8, 0, 0, 0}, 4, 3},
		{list{13}, 4, 0},
		{list{0x80000000}, 32, 31},
		{list{0x80000000, 0}, 32, 31},
		{list{greatest}, 32, 0},
		{list{0, 1}, 33, 32},
		{list{1, 1}, 33, 0},
		{list{0, 1, 0}, 33, 32},
		{list{0, 0x80000000}, 64, 63},
		{list{0x80000000, 0x80000000}, 64, 31},
		{list{0, 6, 0, 0x100}, 105, 33},
		{list{0, 0, 5}, 67, 64},
		{list{0, 0, greatest}, 96, 64},
		{behind(repeat(0, 1000), 8), 32004, 32003},
		{behind(list{8}, repeat(0, 1000)...), 4, 3},
		{behind(repeat(greatest, 1000), 1), 32001, 0},
	} {
		if got := Len(c.a); got != c.len {
			t.Errorf("%d: Len(%d): %d; want %d", i, c.a, got, c.len)
		}
		if got := Zeros(c.a); got != c.zeros {
			t.Errorf("%d: Zeros(%d): %d; want %d", i, c.a, got, c.zeros)
		}
	}
}

func TestLenAndZerosAreOfTheDigits(t *testing.T) {
	for _, a := range lists() {
		d := digits(a)
		if got := Len(a); got != len(d) {
			t.Errorf("Len(%d): %d; want %d", a, got, len(d))
		}
		if got, want := Zeros(a), len(d)-len(strings.TrimRight(d, "0")); got != want {
			t.Errorf("Zeros(%d): %d; want %d", a, got, want)
		}
	}
}

func TestBitTable(t *testing.T) {
	for i, c := range []struct {
		a    list
		i    int
		want bool
	}{
		{list{8}, 3, true},
		{list{8}, 2, false},
		{list{8}, 4, false},
		{list{1}, 0, true},
		{list{2}, 0, false},
		{list{0x80000000}, 31, true},
		{list{0x80000000}, 30, false},
		{list{0x80000000, 0}, 31, true},
		{list{0x80000000, 0}, 32, false},
		{list{0, 1}, 32, true},
		{list{0, 1}, 0, false},
		{list{1}, 32, false},
		{list{1, 0}, 32, false},
		{list{0, 0x80000000}, 63, true},
		{list{greatest, greatest}, 63, true},
		{list{greatest, greatest}, 64, false},
		{list{greatest, greatest}, -1, false},
		{list{greatest, greatest}, -32, false},
		{list{greatest, greatest}, -33, false},
		{list{greatest, greatest}, math.MinInt, false},
		{list{greatest, greatest}, math.MaxInt, false},
		{list{greatest, greatest}, math.MaxInt - 31, false},
		{list{greatest, greatest}, 1 << 32, false},
		{list{greatest, greatest}, 1 << 37, false},
		{nil, 0, false},
		{nil, -1, false},
		{list{}, 0, false},
		{list{0}, 0, false},
		{list{0, 0}, 32, false},
		{behind(repeat(0, 1000), 8), 32003, true},
		{behind(repeat(0, 1000), 8), 32002, false},
	} {
		if got := Bit(c.a, c.i); got != c.want {
			t.Errorf("%d: Bit(%d, %d): %v; want %v", i, c.a, c.i, got, c.want)
		}
	}
}

func TestBitIsTheDigit(t *testing.T) {
	for _, a := range lists() {
		d := digits(a)
		for _, i := range ns() {
			want := i >= 0 && i < len(d) && d[len(d)-1-i] == '1'
			if got := Bit(a, i); got != want {
				t.Errorf("Bit(%d, %d): %v; want %v", a, i, got, want)
			}
		}
	}
}

type shift struct {
	a    list
	n    int
	want list
}

func checkTable(t *testing.T, name string, of func(a list, n int) list, table []shift) {
	t.Helper()
	for i, c := range table {
		if got := of(c.a, c.n); !slices.Equal(got, c.want) {
			t.Errorf("%d: %s(%d, %d): %d; want %d", i, name, c.a, c.n, got, c.want)
		}
	}
}

func TestUpTable(t *testing.T) {
	checkTable(t, "Up", Up, []shift{
		{nil, 0, nil},
		{nil, 1, nil},
		{nil, 4096, nil},
		{list{}, 32, nil},
		{list{0}, 5, nil},
		{list{0, 0, 0}, 64, nil},
		{list{0}, math.MaxInt, nil},
		{list{0}, math.MinInt, nil},
		{list{1}, 0, list{1}},
		{list{1}, 1, list{2}},
		{list{1}, 31, list{0x80000000}},
		{list{1}, 32, list{0, 1}},
		{list{1}, 33, list{0, 2}},
		{list{1}, 64, list{0, 0, 1}},
		{list{1, 0, 0}, 32, list{0, 1}},
		{list{13}, 2, list{52}},
		{list{13}, -1, list{13}},
		{list{13, 0}, 0, list{13}},
		{list{13, 0}, math.MinInt, list{13}},
		{list{3}, 31, list{0x80000000, 1}},
		{list{3, 0}, 31, list{0x80000000, 1}},
		{list{0x80000000}, 1, list{0, 1}},
		{list{greatest}, 1, list{0xfffffffe, 1}},
		{list{greatest}, 31, list{0x80000000, 0x7fffffff}},
		{list{greatest}, 32, list{0, greatest}},
		{list{greatest, greatest}, 4, list{0xfffffff0, greatest, 15}},
		{list{greatest, greatest}, 36, list{0, 0xfffffff0, greatest, 15}},
		{list{0, 1}, 4, list{0, 16}},
		{list{7}, 4095, append(repeat(0, 127), 0x80000000, 3)},
		{list{7}, 4096, append(repeat(0, 128), 7)},
		{list{7}, 4097, append(repeat(0, 128), 7)},
		{list{7}, 5000, append(repeat(0, 128), 7)},
		{list{7}, 1 << 32, append(repeat(0, 128), 7)},
		{list{7}, math.MaxInt, append(repeat(0, 128), 7)},
	})
}

func TestDownTable(t *testing.T) {
	checkTable(t, "Down", Down, []shift{
		{nil, 0, nil},
		{nil, 5, nil},
		{list{}, math.MaxInt, nil},
		{list{0}, 0, nil},
		{list{0, 0, 0}, 1, nil},
		{list{0, 0, 0}, math.MinInt, nil},
		{list{13}, 0, list{13}},
		{list{13, 0, 0}, 0, list{13}},
		{list{13}, -1, list{13}},
		{list{13, 0}, math.MinInt, list{13}},
		{list{13}, 1, list{6}},
		{list{13}, 2, list{3}},
		{list{13}, 3, list{1}},
		{list{13}, 4, nil},
		{list{13}, 31, nil},
		{list{13}, 32, nil},
		{list{13, 0, 0}, 33, nil},
		{list{13}, math.MaxInt, nil},
		{list{greatest, greatest}, 1 << 32, nil},
		{list{0, 1}, 1, list{0x80000000}},
		{list{0, 1}, 32, list{1}},
		{list{0, 1}, 33, nil},
		{list{0, 1, 0}, 31, list{2}},
		{list{5, 7}, 32, list{7}},
		{list{5, 7, 0}, 32, list{7}},
		{list{5, 7}, 33, list{3}},
		{list{greatest, greatest}, 31, list{greatest, 1}},
		{list{greatest, greatest}, 63, list{1}},
		{list{greatest, greatest}, 64, nil},
		{list{0xfffffff0, greatest, 15}, 4, list{greatest, greatest}},
		{list{1, 2, 3}, 64, list{3}},
		{list{1, 0, 3}, 32, list{0, 3}},
		{behind(repeat(9, 1000), 8), 32003, list{1}},
		{behind(repeat(9, 1000), 8), 32004, nil},
		{append(repeat(0, 200), 7), 6399, list{14}},
	})
}

func TestLowTable(t *testing.T) {
	checkTable(t, "Low", Low, []shift{
		{nil, 0, nil},
		{nil, 5, nil},
		{list{}, math.MaxInt, nil},
		{list{0}, 32, nil},
		{list{0, 0, 0}, 33, nil},
		{list{0, 0, 0}, math.MinInt, nil},
		{list{13}, 0, nil},
		{list{13}, -1, nil},
		{list{13}, -32, nil},
		{list{13}, math.MinInt, nil},
		{list{13}, 1, list{1}},
		{list{13}, 2, list{1}},
		{list{13}, 3, list{5}},
		{list{13}, 4, list{13}},
		{list{13}, 5, list{13}},
		{list{13, 0, 0}, 33, list{13}},
		{list{13, 0, 0}, math.MaxInt, list{13}},
		{list{8}, 3, nil},
		{list{greatest, greatest}, 31, list{0x7fffffff}},
		{list{greatest, greatest}, 32, list{greatest}},
		{list{greatest, greatest}, 33, list{greatest, 1}},
		{list{greatest, greatest}, 63, list{greatest, 0x7fffffff}},
		{list{greatest, greatest}, 64, list{greatest, greatest}},
		{list{greatest, greatest}, 65, list{greatest, greatest}},
		{list{greatest, greatest}, 1 << 32, list{greatest, greatest}},
		{list{greatest, greatest}, math.MaxInt - 31, list{greatest, greatest}},
		{list{greatest, greatest}, math.MaxInt, list{greatest, greatest}},
		{list{7, 0, 7}, 64, list{7}},
		{list{0, 0, 7}, 64, nil},
		{list{5, 16, 7}, 36, list{5}},
		{list{5, 16, 7}, 37, list{5, 16}},
		{behind(list{9}, behind(repeat(0, 998), 8)...), 31971, list{9}},
		{append(repeat(9, 200), 7), 6401, append(repeat(9, 200), 1)},
	})
}

func TestShiftsMoveTheDigits(t *testing.T) {
	for _, a := range lists() {
		d := digits(a)
		for _, n := range ns() {
			up := d
			if d != "" {
				up += strings.Repeat("0", min(max(n, 0), api.MaxBits))
			}
			if got := Up(a, n); digits(got) != up || !right(got) {
				t.Fatalf("Up(%d, %d): %d", a, n, got)
			}
			cut := len(d) - min(max(n, 0), len(d))
			if got := Down(a, n); digits(got) != d[:cut] || !right(got) {
				t.Fatalf("Down(%d, %d): %d", a, n, got)
			}
			if got := Low(a, n); digits(got) != strings.TrimLeft(d[cut:], "0") || !right(got) {
				t.Fatalf("Low(%d, %d): %d", a, n, got)
			}
		}
	}
}

func TestShiftsAreProductQuotientAndRest(t *testing.T) {
	for _, a := range lists() {
		for _, n := range []int{0, 1, 31, 32, 33, 64, 95, 127, 128, 200, 4096} {
			two, v := new(big.Int).Exp(big.NewInt(2), big.NewInt(int64(n)), nil), value(t, a)
			if got := Up(a, n); value(t, got).Cmp(new(big.Int).Mul(v, two)) != 0 {
				t.Errorf("Up(%d, %d): %d", a, n, got)
			}
			q, r := new(big.Int).DivMod(v, two, new(big.Int))
			if got := Down(a, n); value(t, got).Cmp(q) != 0 {
				t.Errorf("Down(%d, %d): %d; want %v", a, n, got, q)
			}
			if got := Low(a, n); value(t, got).Cmp(r) != 0 {
				t.Errorf("Low(%d, %d): %d; want %v", a, n, got, r)
			}
		}
	}
}

func TestWhatIsShiftedUpIsShiftedDown(t *testing.T) {
	for _, a := range append(lists(), behind(repeat(0xdeadbeef, 1000), 3, 0)) {
		for n := range 300 {
			up := Up(a, n)
			if got := Down(up, n); !slices.Equal(got, nat.Norm(a)) {
				t.Fatalf("Down(Up(%d, %d)): %d", a, n, got)
			}
			if got := Low(up, n); len(got) != 0 {
				t.Fatalf("Low(Up(%d, %d)): %d", a, n, got)
			}
			if len(up) > 0 && (Len(up) != Len(a)+n || Zeros(up) != Zeros(a)+n) {
				t.Fatalf("Up(%d, %d): Len %d, Zeros %d", a, n, Len(up), Zeros(up))
			}
		}
		if got := Down(Up(a, math.MaxInt), api.MaxBits); !slices.Equal(got, nat.Norm(a)) {
			t.Fatalf("Down(Up(%d, the greatest), MaxBits): %d", a, got)
		}
	}
}

func TestDownAndLowTellTheNumber(t *testing.T) {
	for _, a := range append(lists(), behind(repeat(0xdeadbeef, 100), 3, 0)) {
		for _, n := range ns() {
			down, low := Down(a, n), Low(a, n)
			if Len(low) > max(n, 0) {
				t.Fatalf("Low(%d, %d): %d", a, n, low)
			}
			// Up goes no further than MaxBits; from there on all of these lists lie in Low alone.
			if got := nat.Add(Up(down, n), low); !slices.Equal(got, nat.Norm(a)) {
				t.Fatalf("Down(%d, %d) and Low: %d, %d", a, n, down, low)
			}
			if i := max(n, 0); Bit(a, i) != Bit(down, 0) || Bit(low, i) {
				t.Fatalf("Bit(%d, %d): %v", a, i, Bit(a, i))
			}
		}
	}
}

// Each of these answers a list made of a and n.
var answers = []struct {
	name string
	of   func(a list, n int) list
}{
	{"Up", Up},
	{"Down", Down},
	{"Low", Low},
	{"Len, Zeros, Bit", func(a list, n int) list {
		bit := uint32(0)
		if Bit(a, n) {
			bit = 1
		}
		return list{uint32(Len(a)), uint32(Zeros(a)), bit}
	}},
}

var fewNs = []int{math.MinInt, -1, 0, 1, 31, 32, 33, 64, 96, 127, 128, 129, 130, 160, 192, 193, 4096, math.MaxInt}

// lend hands out a with spare room behind it, whose words show who wrote there, or who read.
func lend(a list, fill uint32) list { return behind(a, fill, fill, fill)[:len(a)] }

func room(a list) list { return a[:cap(a)] }

func TestWhatIsHandedInIsLeft(t *testing.T) {
	for _, c := range answers {
		for _, a := range lists() {
			for _, n := range fewNs {
				x := lend(a, greatest)
				before := slices.Clone(room(x))
				got := c.of(x, n)
				if !slices.Equal(room(x), before) {
					t.Fatalf("%s of %d, %d: made of it %d", c.name, a, n, room(x))
				}
				// An answer that shares memory with the argument, spare room too, shows when it is written over.
				for i := range room(got) {
					room(got)[i] = ^room(got)[i]
				}
				if !slices.Equal(room(x), before) {
					t.Fatalf("%s of %d, %d: the answer is its own", c.name, a, n)
				}
			}
		}
	}
}

func TestNothingBehindTheLengthIsRead(t *testing.T) {
	for _, c := range answers {
		for _, a := range lists() {
			for _, n := range fewNs {
				want := c.of(slices.Clip(slices.Clone(a)), n)
				if got := c.of(lend(a, greatest), n); !slices.Equal(got, want) {
					t.Fatalf("%s of %d, %d: %d; want %d", c.name, a, n, got, want)
				}
			}
		}
	}
}

func TestAnswersShareNothing(t *testing.T) {
	for _, c := range answers {
		for _, a := range lists() {
			for _, n := range fewNs {
				first := c.of(a, n)
				want := slices.Clone(first)
				for i := range room(first) {
					room(first)[i] = ^room(first)[i]
				}
				if second := c.of(a, n); !slices.Equal(second, want) {
					t.Fatalf("%s of %d, %d: %d, then %d", c.name, a, n, want, second)
				}
			}
		}
	}
}

func TestAListThatIsNotRightTellsTheSame(t *testing.T) {
	for _, c := range answers {
		for _, a := range lists() {
			for _, n := range ns() {
				want := c.of(nat.Norm(a), n)
				for _, noughts := range []int{1, 2, 9} {
					if got := c.of(behind(a, repeat(0, noughts)...), n); !slices.Equal(got, want) {
						t.Fatalf("%s of %d and %d noughts, %d: %d; want %d", c.name, a, noughts, n, got, want)
					}
				}
			}
		}
	}
}

func TestExamples(t *testing.T) {
	if n := Len(nat.Of(8)); n != 4 {
		t.Error(n)
	}
	if n := Zeros(nat.Of(8)); n != 3 {
		t.Error(n)
	}
	if !Bit(nat.Of(8), 3) {
		t.Error("Bit(8, 3)")
	}
	if a := Up(nat.Of(1), 32); !slices.Equal(a, list{0, 1}) {
		t.Error(a)
	}
	if a := Down(nat.Of(13), 2); !slices.Equal(a, list{3}) {
		t.Error(a)
	}
	if a := Low(nat.Of(13), 2); !slices.Equal(a, list{1}) {
		t.Error(a)
	}
}
