package figure_test

import (
	"fmt"
	"math"
	"math/big"
	"slices"
	"strings"
	"testing"

	"retrospect/api"
	"retrospect/figure"
	"retrospect/frac"
	"retrospect/whole"
)

const (
	greatest = 0xffffffff
	// As the document names it.
	maxDigits = 60
)

type (
	list     = []uint32
	number   = whole.Whole
	fraction = frac.Frac
)

func plus(w ...uint32) number { return number{Abs: w} }

func minus(w ...uint32) number { return number{Neg: true, Abs: w} }

// over writes a fraction as it stands, right or not.
func over(num number, den ...uint32) fraction { return fraction{Num: num, Den: den} }

func repeat(w uint32, n int) list { return slices.Repeat(list{w}, n) }

func behind(a list, w ...uint32) list { return append(slices.Clone(a), w...) }

func natural(a list) *big.Int {
	n := new(big.Int)
	for i := len(a) - 1; i >= 0; i-- {
		n.Or(n.Lsh(n, 32), big.NewInt(int64(a[i])))
	}
	return n
}

func value(a fraction) *big.Rat {
	den := natural(a.Den)
	if den.Sign() == 0 {
		return new(big.Rat)
	}
	num := natural(a.Num.Abs)
	if a.Num.Neg {
		num.Neg(num)
	}
	return new(big.Rat).SetFrac(num, den)
}

func words(n *big.Int) list {
	var a list
	for n = new(big.Int).Abs(n); n.Sign() > 0; n.Rsh(n, 32) {
		a = append(a, uint32(n.Uint64()))
	}
	return a
}

// of is the right fraction of a value, as math/big cancels it.
func of(r *big.Rat) fraction {
	return fraction{Num: number{Neg: r.Sign() < 0, Abs: words(r.Num())}, Den: words(r.Denom())}
}

// rat is the value of a figure. Ahead of a / math/big would read a 0 ahead as a sign of another base, so it's told the base.
func rat(s string) *big.Rat {
	num, den, ok := strings.Cut(s, "/")
	if ok {
		return new(big.Rat).SetFrac(decimal(num), decimal(den))
	}
	num, tail, _ := strings.Cut(s, ".")
	return new(big.Rat).SetFrac(decimal(num+tail), power(len(tail), 0))
}

func decimal(s string) *big.Int {
	n, ok := new(big.Int).SetString(s, 10)
	if !ok {
		panic(s + " is no number")
	}
	return n
}

func fr(s string) fraction { return of(rat(s)) }

// same tells whether two are the same to the word; nil and empty lists are one.
func same(a, b fraction) bool {
	return a.Num.Neg == b.Num.Neg && slices.Equal(a.Num.Abs, b.Num.Abs) && slices.Equal(a.Den, b.Den)
}

// nought is 0 as a right fraction.
func nought() fraction { return over(plus(), 1) }

func noughts() []fraction {
	return []fraction{
		{}, over(plus()), {Den: list{}}, over(plus(), 0), over(plus(), 0, 0), over(plus(7)), over(minus(7)), over(plus(7), 0), over(minus(7), 0, 0, 0), {Num: minus(1, 2, 3), Den: repeat(0, 1000)},
		over(plus(), 1), over(plus(0), 1), over(plus(0, 0), 1, 0), over(minus(), 1), over(minus(0), 1), over(plus(), 7), over(plus(0), 7, 0), over(minus(), 7), over(minus(0, 0), 7), over(minus(), 0), over(minus()), over(minus(0), 0),
		over(plus(), 0, 1), over(minus(0), greatest, greatest), {Num: minus(repeat(0, 1000)...), Den: list{6}},
	}
}

// What fails on one of the lists without a pattern must fail again, so they are always the same ones.
func noise(n int) list {
	x := uint32(2463534242) + uint32(n)
	a := make(list, n)
	for i := range a {
		x ^= x << 13
		x ^= x >> 17
		x ^= x << 5
		a[i] = x
	}
	return a
}

// row is digits without a pattern; the first one is no nought.
func row(n int) string {
	return strings.Repeat("31415926535897932384626433832795", n/32+1)[:n]
}

// power is 10^k, and gap added to it.
func power(k int, gap int64) *big.Int {
	n := new(big.Int).Exp(big.NewInt(10), big.NewInt(int64(k)), nil)
	return n.Add(n, big.NewInt(gap))
}

// At these lists numbers of digits and of words end; some have noughts at the end, so they are not right.
func lists() []list {
	l := []list{
		nil, {0}, {0, 0}, {1}, {1, 0}, {2}, {3}, {4, 0, 0}, {5}, {6}, {8}, {9}, {10}, {16}, {18, 0}, {35}, {40}, {99}, {125}, {995}, {1000}, {1000000000}, {0x80000000}, {greatest}, {greatest, 0},
		{0, 1}, {1, 1}, {0, 6, 0}, {greatest, greatest}, {0, 0, 1}, {0, 0, 10, 0}, {greatest, greatest, greatest}, noise(2), noise(3), noise(5), repeat(greatest, 6),
	}
	for gap := range int64(3) {
		l = append(l, words(power(maxDigits, gap-1)))
	}
	return l
}

// every is each list over each list, with either sign: right ones, and not right in all ways.
func every() []fraction {
	var l []fraction
	for _, num := range lists() {
		for _, den := range lists() {
			l = append(l, over(plus(num...), den...), over(minus(num...), den...))
		}
	}
	return append(l, noughts()...)
}

// fewer are the most telling of every, for what each call leaves.
func fewer() []fraction {
	return []fraction{
		{}, over(minus(7), 0), over(minus(0), 6, 0), nought(), over(plus(1), 1), over(minus(1), 1), over(plus(6, 0), 4), over(minus(2), 3, 0), over(minus(14), 0, 7), over(plus(1), greatest), over(minus(0, 1), 6), over(plus(greatest, greatest), greatest),
		over(plus(noise(3)...), noise(2)...), over(minus(noise(2)...), behind(noise(3), 0)...), over(minus(12), 18), over(plus(5), 40), over(plus(1000000000), 1000000000),
	}
}

// places are enough for what holds of all of Round's.
func places() []int {
	return []int{math.MinInt, -1, 0, 1, 2, 3, 9, maxDigits - 1, maxDigits, maxDigits + 1, math.MaxInt}
}

// refusal is what the chapter says of a text that isn't read; its kind is 0, if it is read.
func refusal(s string) api.Fault {
	mark := 0
	for mark < len(s) && s[mark] != 47 && s[mark] != 46 {
		mark++
	}
	start := 0
	if mark > 0 && s[0] == 45 {
		start = 1
	}
	if place := wrongDigit(s, start, mark); place >= 0 {
		return api.Fault{Kind: api.Parse, At: place}
	}
	if mark == len(s) {
		return api.Fault{}
	}
	if place := wrongDigit(s, mark+1, len(s)); place >= 0 {
		return api.Fault{Kind: api.Parse, At: place}
	}
	if s[mark] == 47 && strings.Trim(s[mark+1:], "0") == "" {
		return api.Fault{Kind: api.Form, At: mark + 1}
	}
	return api.Fault{}
}

// wrongDigit is the first place from start on, and ahead of end, at which no digit of a number is; -1, if a number is there.
func wrongDigit(s string, start, end int) int {
	for i := start; i < end; i++ {
		if s[i] < 48 || s[i] > 57 || i-start == maxDigits {
			return i
		}
	}
	if start == end {
		return start
	}
	return -1
}

// checkRead holds what s is read as against math/big, or against what is said of its refusal.
func checkRead(t *testing.T, s string) {
	t.Helper()
	if fault := refusal(s); fault.Kind != api.OK {
		checkRefused(t, s, fault.Kind, fault.At)
		return
	}
	checkValue(t, s, rat(s))
}

func checkValue(t *testing.T, s string, want *big.Rat) {
	t.Helper()
	if got, fault := figure.Read(s); fault != (api.Fault{}) || !same(got, of(want)) {
		t.Fatalf("Read(%q): %v, %v; want %v", s, got, fault, of(want))
	}
}

// checkRefused asks for what stands beside a fault, too: 0, as a right fraction.
func checkRefused(t *testing.T, s string, kind, place int) {
	t.Helper()
	if got, fault := figure.Read(s); fault != (api.Fault{Kind: kind, At: place}) || !same(got, nought()) {
		t.Fatalf("Read(%q): %v, %v; want 0, %v", s, got, fault, api.Fault{Kind: kind, At: place})
	}
}

// rounded is what Round must tell; math/big writes a - ahead of 0, too.
func rounded(r *big.Rat, places int) string {
	s := r.FloatString(min(max(places, 0), maxDigits))
	if strings.Trim(s, "-0.") == "" {
		return strings.TrimPrefix(s, "-")
	}
	return s
}

func checkRound(t *testing.T, a fraction, places int) {
	t.Helper()
	if got, want := figure.Round(a, places), rounded(value(a), places); got != want {
		t.Fatalf("Round(%v, %d): %q; want %q", a, places, got, want)
	}
}

func TestTextTable(t *testing.T) {
	for i, c := range []struct {
		a    fraction
		want string
	}{
		{over(plus(), 1), "0"},
		{over(plus(1), 1), "1"},
		{over(minus(1), 1), "-1"},
		{over(plus(10), 1), "10"},
		{over(minus(100), 1), "-100"},
		{over(plus(1), 2), "1/2"},
		{over(minus(1), 2), "-1/2"},
		{over(plus(3), 2), "3/2"},
		{over(minus(3), 2), "-3/2"},
		{over(plus(1), 10), "1/10"},
		{over(plus(10), 3), "10/3"},
		{over(minus(7), 1000000000), "-7/1000000000"},
		{over(plus(6), 4), "3/2"},
		{over(minus(6), 4), "-3/2"},
		{over(plus(4), 2), "2"},
		{over(minus(4), 4), "-1"},
		{over(plus(20), 2), "10"},
		{over(plus(2), 4), "1/2"},
		{over(minus(2), 20), "-1/10"},
		{over(plus(3, 0), 2), "3/2"},
		{over(minus(3), 2, 0), "-3/2"},
		{over(plus(3, 0, 0), 1, 0), "3"},
		{over(minus(6, 0), 4, 0, 0), "-3/2"},
		{over(plus(1, 0), 1, 0), "1"},
		{over(plus(0, 1), 1), "4294967296"},
		{over(minus(0, 1), 1), "-4294967296"},
		{over(plus(1), 0, 1), "1/4294967296"},
		{over(plus(1), 1, 1), "1/4294967297"},
		{over(minus(1, 1), 0, 1), "-4294967297/4294967296"},
		{over(plus(0, 1), 0, 1), "1"},
		{over(plus(0, 6), 0, 4), "3/2"},
		{over(plus(greatest, greatest), greatest), "4294967297"},
		{over(plus(1), 0, 0, 1), "1/18446744073709551616"},
		{over(plus(0, 0, 0, 0, 1), 1), "340282366920938463463374607431768211456"},
	} {
		if got := figure.Text(c.a); got != c.want {
			t.Errorf("%d: Text(%v): %q; want %q", i, c.a, got, c.want)
		}
	}
}

func TestTextOfNoughts(t *testing.T) {
	for _, a := range noughts() {
		if got := figure.Text(a); got != "0" {
			t.Errorf("Text(%v): %q; want 0", a, got)
		}
	}
}

func TestTextOfSmallFractions(t *testing.T) {
	for n := -120; n <= 120; n++ {
		for d := 1; d <= 120; d++ {
			a, _ := frac.Ratio(n, d)
			want := big.NewRat(int64(n), int64(d)).RatString()
			raw := over(number{Neg: n < 0, Abs: list{uint32(max(n, -n)), 0}}, uint32(d), 0)
			if got, again := figure.Text(a), figure.Text(raw); got != want || again != want {
				t.Fatalf("Text of %d over %d: %q, %q; want %q", n, d, got, again, want)
			}
		}
	}
}

func TestTextIsTheFraction(t *testing.T) {
	for _, a := range every() {
		if got, want := figure.Text(a), value(a).RatString(); got != want {
			t.Fatalf("Text(%v): %q; want %q", a, got, want)
		}
	}
	for _, n := range []int{20, 128, 129} {
		for _, a := range []fraction{over(minus(noise(n)...), noise(n+1)...), over(plus(noise(n+1)...), noise(n)...), over(minus(noise(n)...), 1)} {
			if got, want := figure.Text(a), value(a).RatString(); got != want {
				t.Fatalf("Text of %d words: %q; want %q", n, got, want)
			}
		}
	}
}

func TestReadTable(t *testing.T) {
	for _, c := range []struct {
		s    string
		want fraction
	}{
		{"0", nought()},
		{"00", nought()},
		{"-0", nought()},
		{"-000", nought()},
		{"1", over(plus(1), 1)},
		{"-1", over(minus(1), 1)},
		{"007", over(plus(7), 1)},
		{"-007", over(minus(7), 1)},
		{"10", over(plus(10), 1)},
		{"4294967296", over(plus(0, 1), 1)},
		{"-4294967296", over(minus(0, 1), 1)},
		{"1/2", over(plus(1), 2)},
		{"-1/2", over(minus(1), 2)},
		{"2/4", over(plus(1), 2)},
		{"-6/4", over(minus(3), 2)},
		{"4/2", over(plus(2), 1)},
		{"-4/4", over(minus(1), 1)},
		{"7/1", over(plus(7), 1)},
		{"0/5", nought()},
		{"-0/5", nought()},
		{"-00/0005", nought()},
		{"03/06", over(plus(1), 2)},
		{"-003/0020", over(minus(3), 20)},
		{"1/4294967296", over(plus(1), 0, 1)},
		{"4294967296/4294967296", over(plus(1), 1)},
		{"4294967296/6", over(plus(0x80000000), 3)},
		{"0.0", nought()},
		{"-0.0", nought()},
		{"-00.000", nought()},
		{"0.5", over(plus(1), 2)},
		{"-0.5", over(minus(1), 2)},
		{"-0.50", over(minus(1), 2)},
		{"-00.25", over(minus(1), 4)},
		{"-0.001", over(minus(1), 1000)},
		{"-0.999", over(minus(999), 1000)},
		{"1.0", over(plus(1), 1)},
		{"-1.0", over(minus(1), 1)},
		{"1.25", over(plus(5), 4)},
		{"-1.25", over(minus(5), 4)},
		{"-2.75", over(minus(11), 4)},
		{"10.01", over(plus(1001), 100)},
		{"1.05", over(plus(21), 20)},
		{"1.50", over(plus(3), 2)},
		{"1.005", over(plus(201), 200)},
		{"1.0050", over(plus(201), 200)},
		{"001.5", over(plus(3), 2)},
		{"-001.500", over(minus(3), 2)},
		{"0.1", over(plus(1), 10)},
		{"0.3", over(plus(3), 10)},
		{"12.125", over(plus(97), 8)},
		{"99.99", over(plus(9999), 100)},
		{"4294967296.5", over(plus(1, 2), 2)},
		{"-0.00000000023283064365386962890625", over(minus(1), 0, 1)},
	} {
		if got, fault := figure.Read(c.s); fault != (api.Fault{}) || !same(got, c.want) {
			t.Errorf("Read(%q): %v, %v; want %v", c.s, got, fault, c.want)
		}
	}
}

func TestReadRefusedTable(t *testing.T) {
	for _, c := range []struct {
		s           string
		kind, place int
	}{
		{"", api.Parse, 0},
		{"-", api.Parse, 1},
		{"+", api.Parse, 0},
		{"+1", api.Parse, 0},
		{"--1", api.Parse, 1},
		{"1-", api.Parse, 1},
		{"x", api.Parse, 0},
		{"12x", api.Parse, 2},
		{"-12x", api.Parse, 3},
		{" 1", api.Parse, 0},
		{"1 ", api.Parse, 1},
		{"1\n", api.Parse, 1},
		{"1e3", api.Parse, 1},
		{"0x10", api.Parse, 1},
		{"1,5", api.Parse, 1},
		{"1_000", api.Parse, 1},
		{"1:2", api.Parse, 1},
		{"1\\2", api.Parse, 1},

		{"/", api.Parse, 0},
		{".", api.Parse, 0},
		{"/2", api.Parse, 0},
		{".5", api.Parse, 0},
		{"-/2", api.Parse, 1},
		{"-.5", api.Parse, 1},
		{"-/", api.Parse, 1},
		{"-.", api.Parse, 1},
		{"/0", api.Parse, 0},
		{"1/", api.Parse, 2},
		{"1.", api.Parse, 2},
		{"-1/", api.Parse, 3},
		{"-1.", api.Parse, 3},
		{"0/", api.Parse, 2},
		{"-0.", api.Parse, 3},

		{"1//2", api.Parse, 2},
		{"1..5", api.Parse, 2},
		{"1/.5", api.Parse, 2},
		{"1./2", api.Parse, 2},
		{"1/2/3", api.Parse, 3},
		{"1.2.3", api.Parse, 3},
		{"1/2.5", api.Parse, 3},
		{"1.5/2", api.Parse, 3},
		{"1/0.5", api.Parse, 3},
		{"1/0/5", api.Parse, 3},
		{"1/2/", api.Parse, 3},
		{"1.2.", api.Parse, 3},
		{"12.34/", api.Parse, 5},
		{"12/34.", api.Parse, 5},
		{"//", api.Parse, 0},
		{"..", api.Parse, 0},
		{"/.", api.Parse, 0},
		{"./", api.Parse, 0},

		{"1/-2", api.Parse, 2},
		{"1.-5", api.Parse, 2},
		{"1/+2", api.Parse, 2},
		{"1/ 2", api.Parse, 2},
		{"1 /2", api.Parse, 1},
		{"1. 5", api.Parse, 2},
		{"1 .5", api.Parse, 1},
		{"1/2x", api.Parse, 3},
		{"1.2x", api.Parse, 3},
		{"1/x", api.Parse, 2},
		{"1/0x", api.Parse, 3},
		{"1.5e3", api.Parse, 3},
		{"-12/3x4", api.Parse, 5},
		{"-12.3x4", api.Parse, 5},

		{"x/x", api.Parse, 0},
		{"1x/x", api.Parse, 1},
		{"1x.x", api.Parse, 1},
		{"x/0", api.Parse, 0},
		{"1x/0", api.Parse, 1},
		{"-x.5x", api.Parse, 1},
		{"--1/0", api.Parse, 1},
		{"+1/2", api.Parse, 0},
		{"+1.5", api.Parse, 0},

		{"1/0", api.Form, 2},
		{"0/0", api.Form, 2},
		{"-1/0", api.Form, 3},
		{"-0/0", api.Form, 3},
		{"1/00", api.Form, 2},
		{"12/0000000000", api.Form, 3},
		{"007/0", api.Form, 4},
		{"4294967296/0", api.Form, 11},
		{"1/" + strings.Repeat("0", maxDigits), api.Form, 2},
		{row(maxDigits) + "/0", api.Form, maxDigits + 1},
		{"-" + row(maxDigits) + "/" + strings.Repeat("0", maxDigits), api.Form, maxDigits + 2},
		{"1/" + strings.Repeat("0", maxDigits+1), api.Parse, maxDigits + 2},

		{"\x00", api.Parse, 0},
		{"\xff", api.Parse, 0},
		{"1\x00/2", api.Parse, 1},
		{"1/\x002", api.Parse, 2},
		{"1/\xff", api.Parse, 2},
		{"1.\xb0", api.Parse, 2},
		{"\xaf", api.Parse, 0},
		{"1\xae5", api.Parse, 1},
		{"1\xe9/2", api.Parse, 1},
		{"٣", api.Parse, 0},
		{"1/٣", api.Parse, 2},
		{"½", api.Parse, 0},
		{"1½", api.Parse, 1},
		{"1⁄2", api.Parse, 1},
		{"1∕2", api.Parse, 1},
		{"1／2", api.Parse, 1},
		{"1．5", api.Parse, 1},
		{"1٫5", api.Parse, 1},
		{"−1", api.Parse, 0},
		{"－1", api.Parse, 0},
		{"1.5²", api.Parse, 3},
	} {
		checkRefused(t, c.s, c.kind, c.place)
	}
}

// With a / the numbers may have as many digits each, and so with a point; noughts ahead and behind count among them, the - doesn't.
func TestReadOfAsManyDigitsAsMayBe(t *testing.T) {
	for _, sign := range []string{"", "-"} {
		for _, n := range []int{1, 2, 9, 10, 19, 20, maxDigits - 1, maxDigits} {
			for _, ahead := range []string{row(n), strings.Repeat("9", n), strings.Repeat("0", n), strings.Repeat("0", n-1) + "1", "1" + strings.Repeat("0", n-1)} {
				checkValue(t, sign+ahead, rat(sign+ahead))
				for _, m := range []int{1, 2, 9, 10, 19, 20, maxDigits - 1, maxDigits} {
					for _, tail := range []string{row(m), strings.Repeat("9", m), strings.Repeat("0", m-1) + "1", "1" + strings.Repeat("0", m-1)} {
						for _, mark := range []string{"/", "."} {
							s := sign + ahead + mark + tail
							checkValue(t, s, rat(s))
						}
					}
					s := sign + ahead + "." + strings.Repeat("0", m)
					checkValue(t, s, rat(s))
				}
			}
		}
	}
}

func TestReadOfTooManyDigits(t *testing.T) {
	for _, n := range []int{maxDigits + 1, maxDigits + 2, 2 * maxDigits, 3 * maxDigits, 1 << 20} {
		for _, s := range []string{row(n), strings.Repeat("9", n), strings.Repeat("0", n), strings.Repeat("0", n-1) + "1", "1" + strings.Repeat("0", n-1)} {
			checkRefused(t, s, api.Parse, maxDigits)
			checkRefused(t, "-"+s, api.Parse, maxDigits+1)
			for _, mark := range []string{"/", "."} {
				for _, tail := range []string{"", "0", "7", "x", s} {
					checkRefused(t, s+mark+tail, api.Parse, maxDigits)
					checkRefused(t, "-"+s+mark+tail, api.Parse, maxDigits+1)
				}
				for _, ahead := range []string{"0", "7", "-0", "-12", row(maxDigits), "-" + row(maxDigits)} {
					checkRefused(t, ahead+mark+s, api.Parse, len(ahead)+1+maxDigits)
				}
				checkRefused(t, mark+s, api.Parse, 0)
				checkRefused(t, "1x"+mark+s, api.Parse, 1)
				checkRefused(t, "12"+mark+"x"+s, api.Parse, 3)
			}
		}
	}
}

// All texts that can be made of a few bytes, up to some length: marks, signs and noughts in all orders.
func TestReadOfAllShortTexts(t *testing.T) {
	texts := []string{""}
	for range 6 {
		var longer []string
		for _, s := range texts {
			checkRead(t, s)
			for _, c := range []string{"0", "1", "6", "-", "/", ".", "x"} {
				longer = append(longer, s+c)
			}
		}
		texts = longer
	}
	for _, s := range texts {
		checkRead(t, s)
	}
}

// Each byte at each place: whether it is read, and where it is refused, if it isn't.
func TestReadOfEachByte(t *testing.T) {
	full := row(maxDigits)
	for _, s := range []string{"7", "12", "-12", "1/2", "-12/345", "1.5", "-12.345", "-0.05", "12/00", "12.00", "//", "1.2.3", full, "-" + full, full + "/" + full, "-" + full + "." + full, "7/" + full + "1", full + "1.7"} {
		for place := range len(s) {
			b := []byte(s)
			for c := range 256 {
				b[place] = byte(c)
				checkRead(t, string(b))
			}
		}
	}
}

// A mark at each place of a row, and two of them: what is ahead of the first one, and what is behind it, may both be wrong.
func TestReadOfMarksAtEachPlace(t *testing.T) {
	for _, n := range []int{2, 3, 5, 61, 62, 63, 121, 122} {
		for _, digit := range []string{row(n), strings.Repeat("0", n)} {
			for first := range n {
				for _, mark := range []byte("/.") {
					b := []byte(digit)
					b[first] = mark
					checkRead(t, string(b))
					for _, second := range []byte("/.-x") {
						for place := range n {
							if place != first {
								c := slices.Clone(b)
								c[place] = second
								checkRead(t, string(c))
							}
						}
					}
				}
			}
		}
	}
}

func TestReadOfSmallFractions(t *testing.T) {
	for n := -110; n <= 110; n++ {
		for d := range 110 {
			checkRead(t, fmt.Sprintf("%d/%d", n, d))
			checkRead(t, fmt.Sprintf("%d.%d", n, d))
			checkRead(t, fmt.Sprintf("%d.%02d", n, d))
			checkRead(t, fmt.Sprintf("-%03d.%03d", max(n, -n), d))
		}
	}
}

func TestReadAnswersRightFractions(t *testing.T) {
	for _, s := range texts() {
		if got, _ := figure.Read(s); !frac.Right(got) {
			t.Fatalf("Read(%q): %v isn't right", s, got)
		}
	}
}

func TestRoundTable(t *testing.T) {
	for _, c := range []struct {
		a      fraction
		places int
		want   string
	}{
		{fr("0"), 0, "0"},
		{fr("0"), 1, "0.0"},
		{fr("0"), 3, "0.000"},
		{fr("7"), 0, "7"},
		{fr("7"), 1, "7.0"},
		{fr("-7"), 2, "-7.00"},
		{fr("100"), 0, "100"},
		{fr("-100"), 1, "-100.0"},
		{fr("1/2"), 1, "0.5"},
		{fr("1/2"), 3, "0.500"},
		{fr("-1/2"), 1, "-0.5"},
		{fr("3/2"), 1, "1.5"},
		{fr("-3/2"), 1, "-1.5"},
		{fr("1/3"), 0, "0"},
		{fr("1/3"), 1, "0.3"},
		{fr("1/3"), 4, "0.3333"},
		{fr("2/3"), 0, "1"},
		{fr("2/3"), 1, "0.7"},
		{fr("2/3"), 4, "0.6667"},
		{fr("-1/3"), 0, "0"},
		{fr("-1/3"), 2, "-0.33"},
		{fr("-2/3"), 0, "-1"},
		{fr("-2/3"), 2, "-0.67"},
		{fr("22/7"), 2, "3.14"},
		{fr("-22/7"), 5, "-3.14286"},
		{fr("1/8"), 2, "0.13"},
		{fr("-1/8"), 2, "-0.13"},
		{fr("3/8"), 2, "0.38"},
		{fr("1/80"), 3, "0.013"},
		{fr("1/1000"), 3, "0.001"},
		{fr("1/1000"), 2, "0.00"},
		{fr("-1/1000"), 2, "0.00"},
		{fr("1001/1000"), 3, "1.001"},
		{fr("10/1001"), 6, "0.009990"},

		{fr("1/2"), 0, "1"},
		{fr("-1/2"), 0, "-1"},
		{fr("3/2"), 0, "2"},
		{fr("-3/2"), 0, "-2"},
		{fr("5/2"), 0, "3"},
		{fr("-5/2"), 0, "-3"},
		{fr("1/20"), 1, "0.1"},
		{fr("-1/20"), 1, "-0.1"},
		{fr("3/20"), 1, "0.2"},
		{fr("-1/4"), 1, "-0.3"},
		{fr("1/4"), 1, "0.3"},
		{fr("1/200"), 2, "0.01"},
		{fr("-1/200"), 2, "-0.01"},
		{fr("4999999999/10000000000"), 0, "0"},
		{fr("5000000001/10000000000"), 0, "1"},
		{fr("-4999999999/10000000000"), 0, "0"},
		{fr("-5000000001/10000000000"), 0, "-1"},
		{fr("-49999/1000000"), 1, "0.0"},
		{fr("-50001/1000000"), 1, "-0.1"},

		{fr("-1/9"), 0, "0"},
		{fr("-1/9"), 1, "-0.1"},
		{fr("-1/21"), 1, "0.0"},
		{fr("-1/2001"), 3, "0.000"},
		{fr("-1/4294967296"), 9, "0.000000000"},
		{fr("-1/4294967296"), 10, "-0.0000000002"},

		{fr("9/10"), 0, "1"},
		{fr("19/20"), 1, "1.0"},
		{fr("-19/20"), 1, "-1.0"},
		{fr("199/100"), 1, "2.0"},
		{fr("995/100"), 1, "10.0"},
		{fr("-9995/1000"), 2, "-10.00"},
		{fr("19/2"), 0, "10"},
		{fr("999/10"), 0, "100"},
		{fr("9994999/1000"), 0, "9995"},
		{fr("999999/1000000"), 5, "1.00000"},
		{fr("-999999/1000000"), 3, "-1.000"},
		{fr("999999999999/1000"), 2, "1000000000.00"},

		{fr("2/3"), -1, "1"},
		{fr("25"), -1, "25"},
		{fr("-25"), -2, "-25"},
		{fr("2/3"), math.MinInt, "1"},
		{fr("1"), maxDigits, "1." + strings.Repeat("0", maxDigits)},
		{fr("2/3"), maxDigits - 1, "0." + strings.Repeat("6", maxDigits-2) + "7"},
		{fr("2/3"), maxDigits, "0." + strings.Repeat("6", maxDigits-1) + "7"},
		{fr("2/3"), maxDigits + 1, "0." + strings.Repeat("6", maxDigits-1) + "7"},
		{fr("-2/3"), math.MaxInt, "-0." + strings.Repeat("6", maxDigits-1) + "7"},

		{over(plus(6), 4), 1, "1.5"},
		{over(minus(6, 0), 4, 0), 2, "-1.50"},
		{over(plus(4), 6), 2, "0.67"},
		{over(minus(2, 0), 4), 0, "-1"},
		{over(plus(0, 1), 0, 2), 1, "0.5"},
		{over(minus(0, 1), 0, 0, 2), 1, "0.0"},
		{over(minus(8), 8), 0, "-1"},
		{over(plus(greatest, greatest), greatest), 0, "4294967297"},
		{over(minus(7), 0), 2, "0.00"},
		{over(plus(7)), 0, "0"},
		{over(minus(), 3), 1, "0.0"},
		{fraction{}, 1, "0.0"},
	} {
		if got := figure.Round(c.a, c.places); got != c.want {
			t.Errorf("Round(%v, %d): %q; want %q", c.a, c.places, got, c.want)
		}
	}
}

func TestRoundOfNoughts(t *testing.T) {
	for _, a := range noughts() {
		for _, p := range places() {
			want := "0"
			if p > 0 {
				want += "." + strings.Repeat("0", min(p, maxDigits))
			}
			if got := figure.Round(a, p); got != want {
				t.Fatalf("Round(%v, %d): %q; want %q", a, p, got, want)
			}
		}
	}
}

func TestRoundIsTheNearest(t *testing.T) {
	for _, a := range every() {
		for _, p := range places() {
			checkRound(t, a, p)
		}
	}
	for n := -140; n <= 140; n++ {
		for d := 1; d <= 100; d++ {
			a := over(number{Neg: n < 0, Abs: list{uint32(max(n, -n)), 0}}, uint32(d), 0)
			for p := -1; p <= 3; p++ {
				checkRound(t, a, p)
			}
		}
	}
	for p := -3; p <= maxDigits+3; p++ {
		for _, a := range fewer() {
			checkRound(t, a, p)
		}
	}
}

// Half a unit of the last place more than some units, and what is least above and below that.
func TestRoundAtHalves(t *testing.T) {
	half, least := big.NewRat(1, 2), new(big.Rat).SetFrac(big.NewInt(1), power(90, 0))
	for _, p := range []int{0, 1, 2, 9, 10, 19, maxDigits - 1, maxDigits} {
		unit := new(big.Rat).SetFrac(big.NewInt(1), power(p, 0))
		for _, units := range []string{"0", "1", "4", "9", "10", "99", "999", "999999999", "4294967295", row(maxDigits), strings.Repeat("9", maxDigits)} {
			middle := new(big.Rat).Add(rat(units), half)
			middle.Mul(middle, unit)
			for _, a := range []*big.Rat{middle, new(big.Rat).Add(middle, least), new(big.Rat).Sub(middle, least)} {
				checkRound(t, of(a), p)
				checkRound(t, of(new(big.Rat).Neg(a)), p)
			}
		}
	}
}

func TestPlacesAreCut(t *testing.T) {
	for _, a := range append(fewer(), fr("-22/7"), fr("1/2"), fr("-1/2")) {
		for _, c := range []struct{ places, cut int }{{-1, 0}, {-2, 0}, {-maxDigits, 0}, {math.MinInt, 0}, {math.MinInt + 1, 0}, {maxDigits + 1, maxDigits}, {maxDigits + 2, maxDigits}, {1 << 32, maxDigits}, {math.MaxInt - 1, maxDigits}, {math.MaxInt, maxDigits}} {
			if got, want := figure.Round(a, c.places), figure.Round(a, c.cut); got != want {
				t.Fatalf("Round(%v, %d): %q; want %q", a, c.places, got, want)
			}
		}
	}
}

func TestRoundOfLongNumbers(t *testing.T) {
	for _, n := range []int{20, 128, 300} {
		for _, a := range []fraction{over(minus(noise(n)...), noise(n+1)...), over(plus(noise(n+1)...), noise(n)...), over(minus(noise(n)...), 1), over(minus(noise(n)...), 3), over(plus(1), noise(n)...), over(plus(noise(n)...), noise(n)...)} {
			for _, p := range []int{0, 1, maxDigits} {
				checkRound(t, a, p)
			}
		}
	}
}

func TestWhatIsWrittenIsReadAsItWas(t *testing.T) {
	for _, a := range every() {
		s := figure.Text(a)
		want := value(a)
		num, den := natural(of(want).Num.Abs).String(), natural(of(want).Den).String()
		ahead := len(want.Num().String())
		switch {
		case len(num) > maxDigits:
			checkRefused(t, s, api.Parse, maxDigits+ahead-len(num))
		case len(den) > maxDigits:
			checkRefused(t, s, api.Parse, ahead+1+maxDigits)
		default:
			checkValue(t, s, want)
		}
	}
}

// What is read is written as the one right fraction of its value, however it was told.
func TestWhatIsReadIsWrittenRight(t *testing.T) {
	for _, s := range texts() {
		a, fault := figure.Read(s)
		want := "0"
		if fault.Kind == api.OK {
			want = rat(s).RatString()
		}
		if got := figure.Text(a); got != want {
			t.Fatalf("Text(Read(%q)): %q; want %q", s, got, want)
		}
	}
}

// Half a place away at most; and the whole part's digits may be as many as are read.
func TestWhatIsRoundedIsReadAsTheNearest(t *testing.T) {
	for _, a := range every() {
		for _, p := range places() {
			s := figure.Round(a, p)
			ahead, _, _ := strings.Cut(strings.TrimPrefix(s, "-"), ".")
			if len(ahead) > maxDigits {
				checkRefused(t, s, api.Parse, maxDigits+strings.Count(s, "-"))
				continue
			}
			b, fault := figure.Read(s)
			if fault != (api.Fault{}) {
				t.Fatalf("Read(Round(%v, %d)): %v", a, p, fault)
			}
			away := new(big.Rat).Sub(value(a), value(b))
			twice := new(big.Int).Mul(big.NewInt(2), power(min(max(p, 0), maxDigits), 0))
			if away.Abs(away).Cmp(new(big.Rat).SetFrac(big.NewInt(1), twice)) > 0 {
				t.Fatalf("Round(%v, %d): %q is %v away", a, p, s, away)
			}
		}
	}
}

// What has no more places than are asked for is told as it is.
func TestWhatIsReadIsRoundedAsItWas(t *testing.T) {
	for _, s := range []string{"0", "7", "-7", "0.5", "-0.5", "1.25", "-1.25", "0.05", "-0.001", "10.10", "99.99", "-100.00", row(maxDigits), "-" + row(maxDigits) + "." + row(maxDigits), "0." + strings.Repeat("0", maxDigits-1) + "1", "-0." + strings.Repeat("9", maxDigits)} {
		a, _ := figure.Read(s)
		ahead, tail, _ := strings.Cut(s, ".")
		if got := figure.Round(a, len(tail)); got != s {
			t.Errorf("Round(Read(%q), %d): %q", s, len(tail), got)
		}
		if len(tail)+3 <= maxDigits {
			want := ahead + "." + tail + "000"
			if got := figure.Round(a, len(tail)+3); got != want {
				t.Errorf("Round(Read(%q), %d): %q; want %q", s, len(tail)+3, got, want)
			}
		}
	}
}

// texts are some that are read, and some that are refused, of each kind.
func texts() []string {
	full := row(maxDigits)
	return []string{
		"", "-", "0", "-0", "7", "-007", "4294967296", "x", "1x", "1/2", "-6/4", "4/2", "0/5", "-0/5", "03/06", "1/4294967296", "1/0", "-1/00", "0.5", "-0.5", "-0.50", "-1.25", "1.0", "-0.0", "99.990", ".5", "5.", "/2", "2/", "1/2/3", "1.2.3", "1.2/3", "1/2.3", "1/x", "x/0",
		full, "-" + full, full + "/" + full, "-" + full + "." + full, full + "1", full + "1/2", "1/" + full + "1", "1." + full + "1", "0." + strings.Repeat("0", maxDigits-1) + "1", "-" + full + "/" + row(maxDigits-1),
	}
}

// lendList hands out a with spare room behind it, whose words show who wrote there, or who read.
func lendList(a list, fill uint32) list { return behind(a, fill, fill, fill)[:len(a)] }

func lend(a fraction, fill uint32) fraction {
	return fraction{Num: number{Neg: a.Num.Neg, Abs: lendList(a.Num.Abs, fill)}, Den: lendList(a.Den, fill)}
}

func room(a list) list { return a[:cap(a)] }

func roomsOf(a fraction) string { return fmt.Sprint(a.Num.Neg, room(a.Num.Abs), room(a.Den)) }

func turnOver(a list) {
	for i := range room(a) {
		room(a)[i] = ^room(a)[i]
	}
}

// told is what both calls tell of a, at all places.
func told(a fraction) []string {
	l := []string{figure.Text(a)}
	for _, p := range places() {
		l = append(l, figure.Round(a, p))
	}
	return l
}

func TestWhatIsHandedInIsLeft(t *testing.T) {
	for _, a := range append(fewer(), noughts()...) {
		want := told(a)
		for _, fill := range []uint32{0, 1, greatest} {
			x := lend(a, fill)
			before := roomsOf(x)
			// The same answers whatever lies behind the lengths, so that isn't read.
			if got := told(x); !slices.Equal(got, want) {
				t.Fatalf("%v with %d behind: %q; want %q", a, fill, got, want)
			}
			if after := roomsOf(x); after != before {
				t.Fatalf("%v: made of it %s", a, after)
			}
		}
	}
}

// One list may stand at both places: it is left, too.
func TestOneListAtBothPlaces(t *testing.T) {
	for _, l := range lists() {
		x := lendList(l, 5)
		a := fraction{Num: number{Neg: true, Abs: x}, Den: x}
		before := roomsOf(a)
		want := value(a)
		if got := figure.Text(a); got != want.RatString() {
			t.Fatalf("Text(%v): %q", a, got)
		}
		for _, p := range places() {
			checkRound(t, a, p)
		}
		if after := roomsOf(a); after != before {
			t.Fatalf("%s: made of it %s", before, after)
		}
	}
}

func TestTheSameCallTellsTheSame(t *testing.T) {
	for _, a := range fewer() {
		want := told(a)
		turned := lend(a, 5)
		turnOver(turned.Num.Abs)
		turnOver(turned.Den)
		told(turned)
		if got := told(a); !slices.Equal(got, want) {
			t.Fatalf("%v: %q, then %q", a, want, got)
		}
	}
}

func TestAnswersShareNothing(t *testing.T) {
	for _, s := range texts() {
		first, fault := figure.Read(s)
		second, _ := figure.Read(s)
		want := roomsOf(second)
		turnOver(first.Num.Abs)
		if len(first.Den) > 0 && fmt.Sprint(room(first.Den)) != fmt.Sprint(room(second.Den)) {
			t.Fatalf("Read(%q): Num and Den are one", s)
		}
		turnOver(first.Den)
		if roomsOf(second) != want {
			t.Fatalf("Read(%q): two answers are one", s)
		}
		if third, again := figure.Read(s); !same(third, second) || again != fault {
			t.Fatalf("Read(%q): %v, %v, then %v, %v", s, second, fault, third, again)
		}
	}
}

// A million noughts at the end cost no more than to go over them, at either place.
func TestNoughtsAtTheEndAreCheap(t *testing.T) {
	end := repeat(0, 1000000)
	for _, a := range []fraction{over(minus(0, 6), 4), over(plus(6), 0, 4), over(minus(7)), over(minus(), 6), {}} {
		long := fraction{Num: number{Neg: a.Num.Neg, Abs: behind(a.Num.Abs, end...)}, Den: behind(a.Den, end...)}
		if got, want := told(long), told(a); !slices.Equal(got, want) {
			t.Fatalf("%v: %q; want %q", a, got, want)
		}
	}
}

func TestExamples(t *testing.T) {
	if got := figure.Text(over(minus(3), 2)); got != "-3/2" {
		t.Error(got)
	}
	checkValue(t, "-1.25", big.NewRat(-5, 4))
	checkRefused(t, "1/0", api.Form, 2)
	checkRefused(t, ".5", api.Parse, 0)
	for _, c := range []struct {
		a      fraction
		places int
		want   string
	}{{over(plus(2), 3), 2, "0.67"}, {over(minus(1), 2), 0, "-1"}, {over(minus(1), 9), 0, "0"}} {
		if got := figure.Round(c.a, c.places); got != c.want {
			t.Errorf("Round(%v, %d): %q; want %q", c.a, c.places, got, c.want)
		}
	}
	// The document's first example of the whole.
	a, _ := frac.Ratio(6, -4)
	if text, one := figure.Text(a), figure.Round(a, 1); text != "-3/2" || one != "-1.5" {
		t.Error(text, one)
	}
}
