package limb

import (
	"math/big"
	"testing"
)

const greatest = 0xffffffff

// At these words carries, borrows and bits change.
var edges = []uint32{0, 1, 2, 3, 7, 10, 0xffff, 0x10000, 0x10001, 0x7fffffff, 0x80000000, 0x80000001, 0xfffffffe, greatest}

// What fails on one of the words without a pattern must fail again, so they are always the same ones.
func words() []uint32 {
	l := append([]uint32(nil), edges...)
	x := uint32(2463534242)
	for range 12 {
		x ^= x << 13
		x ^= x >> 17
		x ^= x << 5
		l = append(l, x)
	}
	return l
}

func wide(x uint32) *big.Int { return new(big.Int).SetUint64(uint64(x)) }

func pair(hi, lo uint32) *big.Int {
	n := new(big.Int).Lsh(wide(hi), 32)
	return n.Add(n, wide(lo))
}

func TestAddTable(t *testing.T) {
	for i, c := range []struct{ x, y, c, sum, carry uint32 }{
		{0, 0, 0, 0, 0},
		{1, 2, 3, 6, 0},
		{greatest, 0, 0, greatest, 0},
		{0, greatest, 0, greatest, 0},
		{0, 0, greatest, greatest, 0},
		{greatest, 1, 0, 0, 1},
		{greatest, 0, 1, 0, 1},
		{0, greatest, 1, 0, 1},
		{0x80000000, 0x80000000, 0, 0, 1},
		{greatest, greatest, 0, 0xfffffffe, 1},
		{greatest, greatest, 1, greatest, 1},
		{greatest, greatest, 2, 0, 2},
		{greatest, 2, greatest, 0, 2},
		{greatest, greatest, greatest, 0xfffffffd, 2},
	} {
		if s, k := Add(c.x, c.y, c.c); s != c.sum || k != c.carry {
			t.Errorf("%d: Add(%d, %d, %d): %d, %d; want %d, %d", i, c.x, c.y, c.c, s, k, c.sum, c.carry)
		}
	}
}

func TestAddIsTheSum(t *testing.T) {
	for _, x := range words() {
		for _, y := range words() {
			for _, c := range words() {
				want := new(big.Int).Add(wide(x), wide(y))
				want.Add(want, wide(c))
				s, k := Add(x, y, c)
				if pair(k, s).Cmp(want) != 0 {
					t.Fatalf("Add(%d, %d, %d): %d, %d", x, y, c, s, k)
				}
			}
		}
	}
}

func TestSubTable(t *testing.T) {
	for i, c := range []struct{ x, y, b, diff, borrow uint32 }{
		{0, 0, 0, 0, 0},
		{6, 2, 3, 1, 0},
		{greatest, greatest, 0, 0, 0},
		{greatest, 0, greatest, 0, 0},
		{5, 2, 3, 0, 0},
		{0, 1, 0, greatest, 1},
		{0, 0, 1, greatest, 1},
		{1, 1, 1, greatest, 1},
		{0, greatest, 0, 1, 1},
		{0, greatest, 1, 0, 1},
		{greatest, greatest, greatest, 1, 1},
		{0xfffffffe, greatest, greatest, 0, 1},
		{0xfffffffd, greatest, greatest, greatest, 2},
		{0, greatest, 2, greatest, 2},
		{0, greatest, greatest, 2, 2},
	} {
		if d, k := Sub(c.x, c.y, c.b); d != c.diff || k != c.borrow {
			t.Errorf("%d: Sub(%d, %d, %d): %d, %d; want %d, %d", i, c.x, c.y, c.b, d, k, c.diff, c.borrow)
		}
	}
}

// A word is below 2^32, so no other borrow than the right one leads to the difference.
func TestSubIsTheDifference(t *testing.T) {
	for _, x := range words() {
		for _, y := range words() {
			for _, b := range words() {
				want := new(big.Int).Sub(wide(x), wide(y))
				want.Sub(want, wide(b))
				d, k := Sub(x, y, b)
				got := new(big.Int).Sub(wide(d), pair(k, 0))
				if got.Cmp(want) != 0 {
					t.Fatalf("Sub(%d, %d, %d): %d, %d", x, y, b, d, k)
				}
			}
		}
	}
}

func TestMulTable(t *testing.T) {
	for i, c := range []struct{ x, y, c, d, hi, lo uint32 }{
		{0, 0, 0, 0, 0, 0},
		{6, 7, 0, 0, 0, 42},
		{6, 7, 8, 9, 0, 59},
		{0, greatest, 5, 6, 0, 11},
		{0, 0, greatest, greatest, 1, 0xfffffffe},
		{0x10000, 0x10000, 0, 0, 1, 0},
		{0x10000, 0x10000, 5, 6, 1, 11},
		{greatest, greatest, 0, 0, 0xfffffffe, 1},
		{greatest, greatest, greatest, 0, greatest, 0},
		{greatest, greatest, 0, greatest, greatest, 0},
		{greatest, greatest, greatest, greatest, greatest, greatest},
	} {
		if hi, lo := Mul(c.x, c.y, c.c, c.d); hi != c.hi || lo != c.lo {
			t.Errorf("%d: Mul(%d, %d, %d, %d): %d, %d; want %d, %d", i, c.x, c.y, c.c, c.d, hi, lo, c.hi, c.lo)
		}
	}
}

func TestMulIsTheProduct(t *testing.T) {
	for _, x := range words() {
		for _, y := range words() {
			for _, c := range edges {
				for _, d := range edges {
					want := new(big.Int).Mul(wide(x), wide(y))
					want.Add(want, wide(c))
					want.Add(want, wide(d))
					hi, lo := Mul(x, y, c, d)
					if pair(hi, lo).Cmp(want) != 0 {
						t.Fatalf("Mul(%d, %d, %d, %d): %d, %d", x, y, c, d, hi, lo)
					}
				}
			}
		}
	}
}

func TestDivTable(t *testing.T) {
	for i, c := range []struct {
		hi, lo, y, q, r uint32
		ok              bool
	}{
		{0, 0, 1, 0, 0, true},
		{0, 7, 2, 3, 1, true},
		{0, greatest, 1, greatest, 0, true},
		{0, 5, 5, 1, 0, true},
		{0, 4, 5, 0, 4, true},
		{1, 0, 2, 0x80000000, 0, true},
		{1, 7, 2, 0x80000003, 1, true},
		{4, greatest, 5, greatest, 4, true},
		{0xfffffffe, greatest, greatest, greatest, 0xfffffffe, true},
		{0xfffffffe, 0, greatest, 0xfffffffe, 0xfffffffe, true},
		{2, 7, 2, 0, 0, false},
		{3, 7, 2, 0, 0, false},
		{1, 0, 1, 0, 0, false},
		{greatest, 0, greatest, 0, 0, false},
		{greatest, greatest, 1, 0, 0, false},
		{0, 0, 0, 0, 0, false},
		{0, 7, 0, 0, 0, false},
		{1, 7, 0, 0, 0, false},
		{greatest, greatest, 0, 0, 0, false},
	} {
		if q, r, ok := Div(c.hi, c.lo, c.y); q != c.q || r != c.r || ok != c.ok {
			t.Errorf("%d: Div(%d, %d, %d): %d, %d, %v; want %d, %d, %v", i, c.hi, c.lo, c.y, q, r, ok, c.q, c.r, c.ok)
		}
	}
}

func TestDivIsTheQuotient(t *testing.T) {
	for _, hi := range words() {
		for _, lo := range words() {
			for _, y := range words() {
				checkDiv(t, hi, lo, y)
			}
		}
	}
}

func checkDiv(t *testing.T, hi, lo, y uint32) {
	t.Helper()
	q, r, ok := Div(hi, lo, y)
	if hi >= y {
		if q != 0 || r != 0 || ok {
			t.Fatalf("Div(%d, %d, %d): %d, %d, %v; want 0, 0, false", hi, lo, y, q, r, ok)
		}
		return
	}
	wantq, wantr := new(big.Int).QuoRem(pair(hi, lo), wide(y), new(big.Int))
	if wide(q).Cmp(wantq) != 0 || wide(r).Cmp(wantr) != 0 || !ok {
		t.Fatalf("Div(%d, %d, %d): %d, %d, %v; want %v, %v, true", hi, lo, y, q, r, ok, wantq, wantr)
	}
}

func TestBitsTable(t *testing.T) {
	for i, c := range []struct {
		x          uint32
		len, zeros int
	}{
		{0, 0, 32},
		{1, 1, 0},
		{2, 2, 1},
		{3, 2, 0},
		{8, 4, 3},
		{0xffff, 16, 0},
		{0x10000, 17, 16},
		{0x30000, 18, 16},
		{0x7fffffff, 31, 0},
		{0x80000000, 32, 31},
		{greatest, 32, 0},
	} {
		if n := Len(c.x); n != c.len {
			t.Errorf("%d: Len(%d): %d; want %d", i, c.x, n, c.len)
		}
		if n := Zeros(c.x); n != c.zeros {
			t.Errorf("%d: Zeros(%d): %d; want %d", i, c.x, n, c.zeros)
		}
	}
}

func TestBitsOfEachPower(t *testing.T) {
	for i := range 32 {
		power := uint32(1) << i
		if n := Len(power); n != i+1 {
			t.Errorf("Len(2^%d): %d", i, n)
		}
		if n := Len(power - 1); n != i {
			t.Errorf("Len(2^%d - 1): %d", i, n)
		}
		if n := Len(power | 1); n != i+1 {
			t.Errorf("Len(2^%d or 1): %d", i, n)
		}
		if n := Zeros(power); n != i {
			t.Errorf("Zeros(2^%d): %d", i, n)
		}
		if n := Zeros(power | 0x80000000); n != i {
			t.Errorf("Zeros(2^%d or 2^31): %d", i, n)
		}
		if n := Zeros(^(power - 1)); n != i {
			t.Errorf("Zeros(2^32 - 2^%d): %d", i, n)
		}
	}
}

func TestBitsAreTheDigits(t *testing.T) {
	for _, x := range words() {
		length, zeros := countBits(x)
		if Len(x) != length || Zeros(x) != zeros {
			t.Errorf("%d: Len %d, Zeros %d; want %d, %d", x, Len(x), Zeros(x), length, zeros)
		}
	}
}

// It halves x till nothing is left, so as to lean on nothing that package limb leans on.
func countBits(x uint32) (length, zeros int) {
	if x == 0 {
		return 0, 32
	}
	seen := false
	for ; x > 0; x /= 2 {
		length++
		seen = seen || x%2 == 1
		if !seen {
			zeros++
		}
	}
	return length, zeros
}

func TestWhatIsAddedIsTakenAway(t *testing.T) {
	for _, x := range words() {
		for _, y := range words() {
			for _, c := range words() {
				s, carry := Add(x, y, c)
				d, borrow := Sub(s, y, c)
				if d != x || borrow != carry {
					t.Fatalf("Sub(Add(%d, %d, %d)) leads to %d, carry %d, borrow %d", x, y, c, d, carry, borrow)
				}
			}
		}
	}
}

func TestWhatIsDividedComesBack(t *testing.T) {
	for _, hi := range words() {
		for _, lo := range words() {
			for _, y := range words() {
				q, r, ok := Div(hi, lo, y)
				if ok != (hi < y) {
					t.Fatalf("Div(%d, %d, %d): %v", hi, lo, y, ok)
				}
				if !ok {
					continue
				}
				if h, l := Mul(q, y, r, 0); h != hi || l != lo || r >= y {
					t.Fatalf("Mul of Div(%d, %d, %d): %d, %d, left %d", hi, lo, y, h, l, r)
				}
			}
		}
	}
}

func TestWhatIsMultipliedIsDivided(t *testing.T) {
	for _, x := range words() {
		for _, y := range words() {
			for _, c := range words() {
				if c >= y {
					continue
				}
				hi, lo := Mul(x, y, c, 0)
				if q, r, ok := Div(hi, lo, y); q != x || r != c || !ok {
					t.Fatalf("Div of Mul(%d, %d, %d, 0): %d, %d, %v", x, y, c, q, r, ok)
				}
			}
		}
	}
}

func TestExamples(t *testing.T) {
	if s, k := Add(4294967295, 1, 0); s != 0 || k != 1 {
		t.Error(s, k)
	}
	if hi, lo := Mul(4294967295, 4294967295, 4294967295, 4294967295); hi != 4294967295 || lo != 4294967295 {
		t.Error(hi, lo)
	}
	if n := Len(8); n != 4 {
		t.Error(n)
	}
	if n := Zeros(8); n != 3 {
		t.Error(n)
	}
}
