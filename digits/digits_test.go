package digits_test

import (
	"fmt"
	"math/big"
	"slices"
	"strings"
	"testing"

	"retrospect/api"
	"retrospect/digits"
	"retrospect/nat"
)

const (
	greatest = 0xffffffff
	// As the document names it; that api tells the same is a test of its own.
	maxDigits = 60
)

type list = []uint32

func right(a list) bool { return len(a) == 0 || a[len(a)-1] != 0 }

func behind(a list, w ...uint32) list { return append(slices.Clone(a), w...) }

func repeat(w uint32, n int) list { return slices.Repeat(list{w}, n) }

func value(a list) *big.Int {
	n := new(big.Int)
	for i := len(a) - 1; i >= 0; i-- {
		n.Or(n.Lsh(n, 32), big.NewInt(int64(a[i])))
	}
	return n
}

// listOf is the right list of an n that is not below 0.
func listOf(n *big.Int) list {
	var a list
	for n = new(big.Int).Set(n); n.Sign() > 0; n.Rsh(n, 32) {
		a = append(a, uint32(n.Uint64()))
	}
	return a
}

func number(t *testing.T, s string) *big.Int {
	t.Helper()
	n, ok := new(big.Int).SetString(s, 10)
	if !ok {
		t.Fatalf("%q is no number", s)
	}
	return n
}

// power is 10^k, and gap added to it.
func power(k int, gap int64) *big.Int {
	n := new(big.Int).Exp(big.NewInt(10), big.NewInt(int64(k)), nil)
	return n.Add(n, big.NewInt(gap))
}

// What fails on one of the lists without a pattern must fail again, so they are always the same ones.
func noise(n int) list {
	x := uint32(2463534242) + uint32(n)
	a := make(list, n)
	for i := range a {
		x ^= x << 13
		x ^= x >> 17
		x ^= x << 5
		a[i] = x
	}
	return a
}

// row is digits without a pattern that a group of digits could hide behind: its neighbours, and those some few places on, are others.
func row(n int) string {
	return strings.Repeat("31415926535897932384626433832795", n/32+1)[:n]
}

// In these lists the number of words and of digits changes, noughts stand among the digits, and some have noughts at the end, so they are not right.
func lists() []list {
	l := []list{
		nil, {}, {0}, {0, 0, 0},
		{1}, {1, 0, 0}, {9}, {9, 0}, {10}, {10, 0, 0, 0}, {99}, {100}, {101}, {1000000007}, {999999999}, {1000000000}, {4000000000},
		{0x7fffffff}, {0x80000000}, {greatest}, {greatest, 0}, {0, 1}, {1, 1}, {0, 1, 0}, {0, 0x80000000}, {greatest, greatest}, {greatest, greatest, 0, 0},
		{0, 0, 1}, {1, 0, 1}, {greatest, 0, greatest}, {0, greatest, 0}, {greatest, greatest, greatest}, {0, 0, 0, 0, 0, 0, 0, 1}, repeat(greatest, 9),
	}
	for n := range 9 {
		l = append(l, noise(n))
	}
	for _, k := range []int{8, 9, 10, 17, 18, 19, 27, 36, 59, 60, 61} {
		for gap := range int64(3) {
			l = append(l, listOf(power(k, gap-1)))
		}
	}
	return l
}

// texts are some that are read, and some that are refused at their first, middle and last places.
func texts() []string {
	l := []string{"", "0", "00", "000000000", "7", "007", "10", "4294967295", "4294967296", "x", "1x", "12x", "x12", "1 2", "-1", "+1", "٣"}
	for _, n := range []int{9, 10, 18, 19, 20, 59, 60, 61, 62, 200} {
		l = append(l, row(n), strings.Repeat("9", n), strings.Repeat("0", n), "1"+strings.Repeat("0", n-1), row(n-1)+"x")
	}
	return l
}

func checkText(t *testing.T, a list, want string) {
	t.Helper()
	if got := digits.Text(a); got != want {
		t.Fatalf("Text(%d): %q; want %q", a, got, want)
	}
	if got := digits.Len(a); got != len(want) {
		t.Fatalf("Len(%d): %d; want %d", a, got, len(want))
	}
}

func checkRead(t *testing.T, s string, want *big.Int) {
	t.Helper()
	got, fault := digits.Read(s)
	if fault != (api.Fault{}) || !right(got) || value(got).Cmp(want) != 0 {
		t.Fatalf("Read(%q): %d, %v; want %v", s, got, fault, want)
	}
}

func checkRefused(t *testing.T, s string, place int) {
	t.Helper()
	got, fault := digits.Read(s)
	if len(got) != 0 || fault != (api.Fault{Kind: api.Parse, At: place}) {
		t.Fatalf("Read(%q): %d, %v; want Parse at %d", s, got, fault, place)
	}
}

// firstWrong is the place that the chapter tells of s, or -1, if s may be read.
func firstWrong(s string) int {
	if len(s) == 0 {
		return 0
	}
	for i := 0; i < len(s); i++ {
		if s[i] < 48 || s[i] > 57 || i == maxDigits {
			return i
		}
	}
	return -1
}

func TestTopNames(t *testing.T) {
	kinds := []int{api.OK, api.Parse, api.Form, api.Pole, api.Underflow, api.Steps, api.Bits, api.Range, api.Shut}
	if want := []int{0, 1, 2, 3, 4, 5, 6, 7, 8}; !slices.Equal(kinds, want) {
		t.Errorf("kinds of faults: %d; want %d", kinds, want)
	}
	limits := []int{api.MaxText, api.MaxDigits, api.MaxDepth, api.MaxNodes, api.MaxLets, api.MaxName, api.MaxDim, api.MaxPar, api.MaxExp, api.MaxStages, api.MaxSteps, api.MaxBits, api.MaxFine}
	if want := []int{4000, maxDigits, 40, 300, 10, 12, 6, 6, 8, 8, 200, 4096, 1024}; !slices.Equal(limits, want) {
		t.Errorf("limits: %d; want %d", limits, want)
	}
}

func TestTextTable(t *testing.T) {
	for _, c := range []struct {
		a    list
		want string
	}{
		{nil, "0"},
		{list{}, "0"},
		{list{0}, "0"},
		{list{0, 0, 0, 0}, "0"},
		{list{1}, "1"},
		{list{1, 0, 0}, "1"},
		{list{9}, "9"},
		{list{9, 0}, "9"},
		{list{10}, "10"},
		{list{10, 0, 0, 0}, "10"},
		{list{11}, "11"},
		{list{99}, "99"},
		{list{100}, "100"},
		{list{101}, "101"},
		{list{10200300}, "10200300"},
		{list{99999999}, "99999999"},
		{list{100000000}, "100000000"},
		{list{999999999}, "999999999"},
		{list{1000000000}, "1000000000"},
		{list{1000000001}, "1000000001"},
		{list{2000000000}, "2000000000"},
		{list{4000000000}, "4000000000"},
		{list{4000000009}, "4000000009"},
		{list{0x7fffffff}, "2147483647"},
		{list{0x80000000}, "2147483648"},
		{list{0xfffffffe}, "4294967294"},
		{list{greatest}, "4294967295"},
		{list{greatest, 0, 0}, "4294967295"},
		{list{0, 1}, "4294967296"},
		{list{0, 1, 0}, "4294967296"},
		{list{1, 1}, "4294967297"},
		{list{0x540be3ff, 2}, "9999999999"},
		{list{0x540be400, 2}, "10000000000"},
		{list{0xa763ffff, 0xde0b6b3}, "999999999999999999"},
		{list{0xa7640000, 0xde0b6b3}, "1000000000000000000"},
		{list{0xa7640001, 0xde0b6b3}, "1000000000000000001"},
		{list{greatest, 0x7fffffff}, "9223372036854775807"},
		{list{0, 0x80000000}, "9223372036854775808"},
		{list{0x89e7ffff, 0x8ac72304}, "9999999999999999999"},
		{list{0x89e80000, 0x8ac72304}, "10000000000000000000"},
		{list{greatest, greatest}, "18446744073709551615"},
		{list{0, 0, 1}, "18446744073709551616"},
		{list{1, 0, 1, 0, 0}, "18446744073709551617"},
		{list{greatest, greatest, greatest, greatest}, "340282366920938463463374607431768211455"},
		{list{0, 0, 0, 0, 1}, "340282366920938463463374607431768211456"},
	} {
		checkText(t, c.a, c.want)
	}
}

func TestTextOfSmallNumbers(t *testing.T) {
	for n := range uint64(20000) {
		checkText(t, nat.Of(n), fmt.Sprint(n))
	}
}

// Up to numbers far longer than a budget lets one become, where a length that is guessed from the bits goes wrong at last.
func TestTextAtPowersOfTen(t *testing.T) {
	for k := range 1400 {
		noughts := strings.Repeat("0", k)
		checkText(t, listOf(power(k, 0)), "1"+noughts)
		if k > 0 {
			checkText(t, listOf(power(k, -1)), strings.Repeat("9", k))
			checkText(t, listOf(power(k, 1)), "1"+noughts[1:]+"1")
		}
	}
}

func TestTextWithNoughtsAmongTheDigits(t *testing.T) {
	for m := range 30 {
		for n := range 30 {
			for _, high := range []string{"1", "5", "204", "999999999"} {
				noughts, end := strings.Repeat("0", m), strings.Repeat("0", n)
				for _, low := range []string{"7", "80", "123456789"} {
					s := high + noughts + low + end
					checkText(t, listOf(number(t, s)), s)
				}
			}
		}
	}
}

func TestTextIsTheNumber(t *testing.T) {
	for _, a := range append(lists(), noise(40), noise(128), noise(129), repeat(greatest, 128), behind(repeat(0, 128), 1), noise(2049)) {
		want := value(a).String()
		checkText(t, a, want)
		for _, n := range []int{1, 2, 9} {
			checkText(t, behind(a, repeat(0, n)...), want)
		}
	}
	for n := range 2000 {
		a := listOf(new(big.Int).Lsh(big.NewInt(1), uint(n)))
		checkText(t, a, value(a).String())
	}
}

// What is asked costs no more than the number is long, however many noughts stand at the end.
func TestNoughtsAtTheEndAreCheap(t *testing.T) {
	checkText(t, repeat(0, 1000000), "0")
	checkText(t, behind(list{0, 1}, repeat(0, 1000000)...), "4294967296")
	checkText(t, behind(noise(30), repeat(0, 1000000)...), value(noise(30)).String())
}

func TestReadTable(t *testing.T) {
	for _, c := range []struct {
		s    string
		want list
	}{
		{"0", nil},
		{"00", nil},
		{"000000000000000000000", nil},
		{"1", list{1}},
		{"2", list{2}},
		{"3", list{3}},
		{"4", list{4}},
		{"5", list{5}},
		{"6", list{6}},
		{"7", list{7}},
		{"8", list{8}},
		{"9", list{9}},
		{"01", list{1}},
		{"007", list{7}},
		{"0000000000000000000000010", list{10}},
		{"10", list{10}},
		{"010", list{10}},
		{"100", list{100}},
		{"1234567890", list{1234567890}},
		{"999999999", list{999999999}},
		{"1000000000", list{1000000000}},
		{"4294967295", list{greatest}},
		{"4294967296", list{0, 1}},
		{"004294967297", list{1, 1}},
		{"9223372036854775808", list{0, 0x80000000}},
		{"18446744073709551615", list{greatest, greatest}},
		{"18446744073709551616", list{0, 0, 1}},
		{"340282366920938463463374607431768211456", list{0, 0, 0, 0, 1}},
	} {
		if got, fault := digits.Read(c.s); !slices.Equal(got, c.want) || fault != (api.Fault{}) {
			t.Errorf("Read(%q): %d, %v; want %d", c.s, got, fault, c.want)
		}
	}
}

func TestReadOfAsManyDigitsAsMayBe(t *testing.T) {
	for n := 1; n <= maxDigits; n++ {
		for _, s := range []string{
			row(n), strings.Repeat("9", n), strings.Repeat("0", n), "1" + strings.Repeat("0", n-1), strings.Repeat("0", n-1) + "1",
			strings.Repeat("0", n/2) + row(n-n/2), row(n-n/2) + strings.Repeat("0", n/2),
		} {
			checkRead(t, s, number(t, s))
		}
	}
}

// Noughts ahead count among the digits: what stands behind the limit is too much, whatever it is.
func TestReadOfTooManyDigits(t *testing.T) {
	for n := maxDigits + 1; n <= maxDigits+70; n++ {
		for _, s := range []string{row(n), strings.Repeat("9", n), strings.Repeat("0", n), strings.Repeat("0", n-1) + "1", strings.Repeat("0", n-maxDigits) + row(maxDigits)} {
			checkRefused(t, s, maxDigits)
		}
	}
	checkRefused(t, strings.Repeat("0", 1<<20), maxDigits)
	checkRefused(t, row(1<<20), maxDigits)
	checkRefused(t, "1x"+row(1<<20), 1)
}

func TestReadRefusedTable(t *testing.T) {
	full := row(maxDigits)
	for _, c := range []struct {
		s     string
		place int
	}{
		{"", 0},
		{"x", 0},
		{"x12", 0},
		{"1x2", 1},
		{"12x", 2},
		{"x1x", 0},
		{"1xx", 1},
		{" 1", 0},
		{"1 ", 1},
		{"1\n", 1},
		{"\x00", 0},
		{"1\x00", 1},
		{"-", 0},
		{"-1", 0},
		{"+1", 0},
		{"1-", 1},
		{"-0", 0},
		{"0x10", 1},
		{"0b1", 1},
		{"1_000", 1},
		{"1,000", 1},
		{"1.5", 1},
		{"1e3", 1},
		{"1/2", 1},
		{"2:", 1},
		{"/", 0},
		{":", 0},
		{"0/", 1},
		{"9:", 1},
		{"000x", 3},
		{"\xb0", 0},
		{"1\xb9", 1},
		{"\xff", 0},
		{"1\xe9", 1},
		{"١", 0},
		{"12٣", 2},
		{"1²", 1},
		{"1９", 1},
		{full + "x", maxDigits},
		{full + "0", maxDigits},
		{full + "0x", maxDigits},
		{full + "xx", maxDigits},
		{full[1:] + "x", maxDigits - 1},
		{full[1:] + "x0", maxDigits - 1},
		{full[1:] + "xx", maxDigits - 1},
		{"x" + full, 0},
		{"-" + full, 0},
		{strings.Repeat("x", maxDigits+1), 0},
	} {
		checkRefused(t, c.s, c.place)
	}
}

// Each byte at each place: whether it is read, and where it is refused, if it isn't.
func TestReadOfEachByte(t *testing.T) {
	for _, n := range []int{1, 2, 3, 9, 10, 11, 19, 20, 58, 59, 60, 61, 62, 63, 64, 130} {
		for place := range n {
			b := []byte(row(n))
			for c := range 256 {
				b[place] = byte(c)
				s := string(b)
				if wrong := firstWrong(s); wrong >= 0 {
					checkRefused(t, s, wrong)
				} else if place < 3 || place > n-3 {
					checkRead(t, s, number(t, s))
				}
			}
		}
	}
}

func TestReadTellsTheFirstOfTwo(t *testing.T) {
	for _, n := range []int{2, 3, 20, 60, 61, 62, 64} {
		for first := range n {
			for second := first + 1; second < n; second++ {
				b := []byte(row(n))
				b[first], b[second] = ':', '/'
				checkRefused(t, string(b), min(first, maxDigits))
			}
		}
	}
}

func TestWhatIsWrittenIsReadAsItWas(t *testing.T) {
	for _, a := range lists() {
		s := digits.Text(a)
		if len(s) > maxDigits {
			checkRefused(t, s, maxDigits)
			continue
		}
		if got, fault := digits.Read(s); !slices.Equal(got, nat.Norm(a)) || fault != (api.Fault{}) {
			t.Fatalf("Read(Text(%d)): %d, %v", a, got, fault)
		}
	}
	most := listOf(power(maxDigits, -1))
	if got, fault := digits.Read(digits.Text(most)); !slices.Equal(got, most) || fault != (api.Fault{}) {
		t.Errorf("the greatest number that is read: %d, %v", got, fault)
	}
	checkRefused(t, digits.Text(listOf(power(maxDigits, 0))), maxDigits)
}

func TestWhatIsReadIsWrittenAsItWas(t *testing.T) {
	for n := 1; n <= maxDigits; n++ {
		for noughts := 0; noughts <= maxDigits-n; noughts++ {
			s := row(n)
			a, _ := digits.Read(strings.Repeat("0", noughts) + s)
			checkText(t, a, s)
		}
		a, _ := digits.Read(strings.Repeat("0", n))
		checkText(t, a, "0")
	}
}

// lend hands out a with spare room behind it, whose words show who wrote there, or who read.
func lend(a list, fill uint32) list { return behind(a, fill, fill, fill)[:len(a)] }

func room(a list) list { return a[:cap(a)] }

func turnOver(a list) {
	for i := range room(a) {
		room(a)[i] = ^room(a)[i]
	}
}

func TestWhatIsHandedInIsLeft(t *testing.T) {
	for _, a := range lists() {
		want := value(a).String()
		for _, fill := range []uint32{0, 1, greatest} {
			x := lend(a, fill)
			before := slices.Clone(room(x))
			// The same number whatever lies behind the length, so that isn't read.
			checkText(t, x, want)
			if !slices.Equal(room(x), before) {
				t.Fatalf("Text or Len of %d: made of it %d", a, room(x))
			}
		}
	}
}

func TestTheSameCallTellsTheSame(t *testing.T) {
	for _, a := range lists() {
		want := digits.Text(a)
		turned := slices.Clone(a)
		turnOver(turned)
		digits.Text(turned)
		checkText(t, a, want)
	}
	for _, s := range texts() {
		want, wantFault := digits.Read(s)
		want = slices.Clone(want)
		digits.Read(s + "1")
		if got, fault := digits.Read(s); !slices.Equal(got, want) || fault != wantFault {
			t.Fatalf("Read(%q): %d, %v, then %d, %v", s, want, wantFault, got, fault)
		}
	}
}

func TestAnswersShareNothing(t *testing.T) {
	for _, s := range texts() {
		first, _ := digits.Read(s)
		want := slices.Clone(first)
		second, _ := digits.Read(s)
		turnOver(first)
		if !slices.Equal(second, want) {
			t.Fatalf("Read(%q): two answers are one", s)
		}
		if third, _ := digits.Read(s); !slices.Equal(third, want) {
			t.Fatalf("Read(%q): %d, then %d", s, want, third)
		}
	}
}

func TestReadAnswersRightLists(t *testing.T) {
	for _, s := range texts() {
		if got, _ := digits.Read(s); !right(got) {
			t.Fatalf("Read(%q): %d", s, got)
		}
	}
}

func TestExamples(t *testing.T) {
	a := nat.Of(4294967296)
	if s, n := digits.Text(a), digits.Len(a); s != "4294967296" || n != 10 {
		t.Error(s, n)
	}
	if a, fault := digits.Read("007"); !slices.Equal(a, list{7}) || fault.Kind != api.OK {
		t.Error(a, fault)
	}
	if a, fault := digits.Read("12x"); len(a) != 0 || fault != (api.Fault{Kind: api.Parse, At: 2}) {
		t.Error(a, fault)
	}
}
