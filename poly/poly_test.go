package poly_test

import (
	"fmt"
	"math/big"
	"slices"
	"strings"
	"testing"

	"retrospect/frac"
	"retrospect/poly"
	"retrospect/whole"
)

const greatest = 0xffffffff

type (
	list     = []uint32
	number   = whole.Whole
	fraction = frac.Frac
	fracs    = []frac.Frac
	rats     = []*big.Rat
)

func plus(w ...uint32) number { return number{Abs: w} }

func minus(w ...uint32) number { return number{Neg: true, Abs: w} }

// over writes a fraction as it stands, right or not.
func over(num number, den ...uint32) fraction { return fraction{Num: num, Den: den} }

func repeat(w uint32, n int) list { return slices.Repeat(list{w}, n) }

func behind(a list, w ...uint32) list { return append(slices.Clone(a), w...) }

func natural(a list) *big.Int {
	n := new(big.Int)
	for i := len(a) - 1; i >= 0; i-- {
		n.Or(n.Lsh(n, 32), big.NewInt(int64(a[i])))
	}
	return n
}

func value(a fraction) *big.Rat {
	den := natural(a.Den)
	if den.Sign() == 0 {
		return new(big.Rat)
	}
	num := natural(a.Num.Abs)
	if a.Num.Neg {
		num.Neg(num)
	}
	return new(big.Rat).SetFrac(num, den)
}

func words(n *big.Int) list {
	var a list
	for n = new(big.Int).Abs(n); n.Sign() > 0; n.Rsh(n, 32) {
		a = append(a, uint32(n.Uint64()))
	}
	return a
}

// of is the right fraction of a value, as math/big cancels it.
func of(r *big.Rat) fraction {
	return fraction{Num: number{Neg: r.Sign() < 0, Abs: words(r.Num())}, Den: words(r.Denom())}
}

// fr is told by a whole number, or by two with a / between.
func fr(s string) fraction {
	r, ok := new(big.Rat).SetString(s)
	if !ok {
		panic(s + " is no fraction")
	}
	return of(r)
}

// line is a row of right fractions, told with spaces between; as a polynomial it need not be right.
func line(s string) fracs {
	var a fracs
	for _, c := range strings.Fields(s) {
		a = append(a, fr(c))
	}
	return a
}

// power is the unknown's n-th one.
func power(n int) fracs { return append(noughts(n), frac.Of(1)) }

// noughts are n right ones.
func noughts(n int) fracs { return slices.Repeat(fracs{over(plus(), 1)}, n) }

// same tells whether two are the same to the word; nil and empty lists are one.
func same(a, b fraction) bool {
	return a.Num.Neg == b.Num.Neg && slices.Equal(a.Num.Abs, b.Num.Abs) && slices.Equal(a.Den, b.Den)
}

func sameLine(a, b fracs) bool { return slices.EqualFunc(a, b, same) }

// What fails on one of the lists without a pattern must fail again, so they are always the same ones.
func noise(n int) list {
	x := uint32(2463534242) + uint32(n)
	a := make(list, n)
	for i := range a {
		x ^= x << 13
		x ^= x >> 17
		x ^= x << 5
		a[i] = x
	}
	return a
}

// rough is a polynomial of degree n without a pattern, of coefficients of so many words, over 1 or over as many.
func rough(n, count int, fractions bool) fracs {
	var a fracs
	w := noise((n + 1) * count * 2)
	for i := range n + 1 {
		at := 2 * i * count
		c := over(number{Neg: w[at]%3 == 0, Abs: behind(w[at:at+count], 1)}, 1)
		if fractions {
			c.Den = behind(w[at+count:at+2*count], 1)
		}
		a = append(a, frac.Norm(c))
	}
	return a
}

// several are fractions right, and not right in all ways, some of one value in several ways; 0 in all forms among them.
func several() fracs {
	return fracs{
		over(plus(1), 2), over(minus(3), 4), over(plus(5), 1), over(plus(), 1), over(minus(1), 1), over(plus(2), 4), over(minus(6, 0), 4, 0), over(plus(7)), {}, over(minus(7), 0), over(minus(0), 6, 0), {Num: minus(1, 2, 3), Den: repeat(0, 20)},
		over(plus(4), 6), over(plus(2), 3), over(minus(14), 0, 7), over(plus(1), greatest), over(minus(0, 1), 6), over(plus(greatest, greatest), greatest), over(plus(1, 1), 1, 0), over(minus(5), 12), over(plus(7, 0), 18, 0, 0),
		over(plus(noise(3)...), noise(2)...), over(minus(noise(2)...), behind(noise(3), 0)...), over(minus(12), 18), over(plus(1, 0), 1), over(minus(), 3), over(plus(0x80000000), 0, 0, 1), over(minus(greatest), 0xfffffffe),
	}
}

// naughts are those of several that stand for 0.
func naughts() fracs {
	return slices.DeleteFunc(several(), func(a fraction) bool { return value(a).Sign() != 0 })
}

// wound is a row of several's fractions, n of them from one place on, round and round.
func wound(n, from, by int) fracs {
	all := several()
	var a fracs
	for i := range n {
		a = append(a, all[(from+i*by)%len(all)])
	}
	return a
}

// bent tells each fraction of a by greater numbers, none of them right.
func bent(a fracs) fracs {
	var b fracs
	for i, c := range a {
		x := value(c)
		by := big.NewInt(int64(2 + i%5))
		num := words(new(big.Int).Mul(x.Num(), by))
		b = append(b, over(number{Neg: x.Sign() < 0 || x.Sign() == 0 && i%2 == 0, Abs: behind(num, repeat(0, i%3)...)}, behind(words(by.Mul(by, x.Denom())), 0)...))
	}
	return b
}

// forms are rows of one meaning with a.
func forms(a fracs) []fracs {
	l := []fracs{a, bent(a), append(slices.Clone(a), noughts(1)...), append(bent(a), noughts(3)...), append(slices.Clone(a), naughts()...)}
	for _, c := range naughts() {
		l = append(l, append(slices.Clone(a), c), append(bent(a), c, c))
	}
	return l
}

// lines are polynomials, right and not right, 0 in many forms among them.
func lines() []fracs {
	l := []fracs{nil, {}, naughts(), line("0 0 0"), line("1"), line("-1"), line("2"), line("-3/2"), line("1 1"), line("1 -1"), line("-1 1"), line("-1 0 1"), line("1 0 -1 0"), line("1 2 1"), line("0 1"), line("0 0 3"), line("0 0 0 1/2"), line("1/2 1/3"), line("1/4 1/3 1/9"), line("-6 11 -6 1"), line("1 0 0 0 0 -1"), line("2 0 0 0 0 0 2 0"), line("1 1 1 1 1"), line("-1/2 0 2"), line("3 6"), line("1 2"), line("4294967295 4294967296"), bent(line("2 -3 1")), bent(line("-2 1 1 0"))}
	for _, c := range naughts() {
		l = append(l, fracs{c})
	}
	for n := 1; n <= 7; n++ {
		for from := range 3 {
			l = append(l, wound(n, 6*from+n, from+1))
		}
	}
	return l
}

// values are those of a's coefficients, up to the last one that isn't 0.
func values(a fracs) rats {
	var l rats
	for _, c := range a {
		l = append(l, value(c))
	}
	return trimmed(l)
}

func trimmed(a rats) rats {
	for len(a) > 0 && a[len(a)-1].Sign() == 0 {
		a = a[:len(a)-1]
	}
	return a
}

func blank(n int) rats {
	a := make(rats, n)
	for i := range a {
		a[i] = new(big.Rat)
	}
	return a
}

func sum(a, b rats) rats {
	s := blank(max(len(a), len(b)))
	for i := range s {
		if i < len(a) {
			s[i].Add(s[i], a[i])
		}
		if i < len(b) {
			s[i].Add(s[i], b[i])
		}
	}
	return trimmed(s)
}

func scaled(c *big.Rat, a rats) rats {
	s := blank(len(a))
	for i := range a {
		s[i].Mul(c, a[i])
	}
	return trimmed(s)
}

func gap(a, b rats) rats { return sum(a, scaled(big.NewRat(-1, 1), b)) }

func product(a, b rats) rats {
	p := blank(len(a) + len(b))
	for i := range a {
		for k := range b {
			p[i+k].Add(p[i+k], new(big.Rat).Mul(a[i], b[k]))
		}
	}
	return trimmed(p)
}

// at adds up the powers, each taken as often as its coefficient tells.
func at(a rats, x *big.Rat) *big.Rat {
	s, p := new(big.Rat), big.NewRat(1, 1)
	for _, c := range a {
		s.Add(s, new(big.Rat).Mul(c, p))
		p.Mul(p, x)
	}
	return s
}

func slope(a rats) rats {
	d := blank(max(len(a)-1, 0))
	for i := range d {
		d[i].Mul(big.NewRat(int64(i+1), 1), a[i+1])
	}
	return d
}

// parted asks for a b that isn't 0.
func parted(a, b rats) (q, r rats) {
	r = a
	for len(r) >= len(b) {
		step := blank(len(r) - len(b) + 1)
		step[len(step)-1].Quo(r[len(r)-1], b[len(b)-1])
		q, r = sum(q, step), gap(r, product(step, b))
	}
	return q, r
}

func monic(a rats) rats {
	if len(a) == 0 {
		return nil
	}
	return scaled(new(big.Rat).Inv(a[len(a)-1]), a)
}

func common(a, b rats) rats {
	for len(b) > 0 {
		_, r := parted(a, b)
		a, b = b, monic(r)
	}
	return monic(a)
}

// A call is told by its name and what it was made with; it is written out only where it's told wrong.
type call struct {
	name string
	with []any
}

func calling(name string, with ...any) call { return call{name, with} }

func (c call) String() string { return fmt.Sprint(c.name, c.with) }

func check(t *testing.T, c call, got fraction, want *big.Rat) {
	t.Helper()
	if !same(got, of(want)) {
		t.Fatalf("%v: %v; want %v", c, got, of(want))
	}
}

// checkPoly asks for the right one, to the word.
func checkPoly(t *testing.T, c call, got fracs, want rats) {
	t.Helper()
	if len(got) != len(want) {
		t.Fatalf("%v: %v, %d coefficients; want %v", c, got, len(got), want)
	}
	for i := range got {
		if !same(got[i], of(want[i])) {
			t.Fatalf("%v: at %d %v; want %v", c, i, got[i], of(want[i]))
		}
	}
}

func checkOne(t *testing.T, a fracs) {
	t.Helper()
	x := values(a)
	checkPoly(t, calling("Norm", a), poly.Norm(a), x)
	checkPoly(t, calling("Diff", a), poly.Diff(a), slope(x))
	if got := poly.Degree(a); got != len(x)-1 {
		t.Fatalf("Degree(%v): %d; want %d", a, got, len(x)-1)
	}
}

func checkWith(t *testing.T, a fracs, c fraction) {
	t.Helper()
	checkPoly(t, calling("Scale", c, a), poly.Scale(c, a), scaled(value(c), values(a)))
	check(t, calling("Eval", a, c), poly.Eval(a, c), at(values(a), value(c)))
}

func checkDiv(t *testing.T, a, b fracs) {
	t.Helper()
	q, r, ok := poly.Div(a, b)
	if len(values(b)) == 0 {
		if ok || len(q) > 0 || len(r) > 0 {
			t.Fatalf("Div(%v, %v): %v, %v, %v; want none, none, false", a, b, q, r, ok)
		}
		return
	}
	if !ok {
		t.Fatalf("Div(%v, %v): false", a, b)
	}
	x, y := parted(values(a), values(b))
	checkPoly(t, calling("Div, q", a, b), q, x)
	checkPoly(t, calling("Div, r", a, b), r, y)
}

func checkPair(t *testing.T, a, b fracs) {
	t.Helper()
	x, y := values(a), values(b)
	alike := slices.EqualFunc(x, y, func(c, d *big.Rat) bool { return c.Cmp(d) == 0 })
	if got := poly.Same(a, b); got != alike {
		t.Fatalf("Same(%v, %v): %v", a, b, got)
	}
	checkPoly(t, calling("Add", a, b), poly.Add(a, b), sum(x, y))
	checkPoly(t, calling("Sub", a, b), poly.Sub(a, b), gap(x, y))
	checkPoly(t, calling("Mul", a, b), poly.Mul(a, b), product(x, y))
	checkDiv(t, a, b)
	checkPoly(t, calling("Gcd", a, b), poly.Gcd(a, b), common(x, y))
}

func TestNormTable(t *testing.T) {
	for _, c := range []struct {
		a    fracs
		want string
	}{
		{nil, ""},
		{fracs{}, ""},
		{line("0"), ""},
		{line("0 0 0 0"), ""},
		{fracs{{}}, ""},
		{fracs{{}, over(minus(), 3), over(plus(7)), over(minus(0), 1), over(plus(0, 0), 0)}, ""},
		{line("1"), "1"},
		{line("1 0"), "1"},
		{line("-2/3 0 0 0 0"), "-2/3"},
		{line("0 1"), "0 1"},
		{line("0 0 5 0"), "0 0 5"},
		{line("1 0 2"), "1 0 2"},
		{line("1 0 0 0 2 0 0"), "1 0 0 0 2"},
		{line("0 1 0 1"), "0 1 0 1"},
		{fracs{over(plus(2), 4), {}, over(minus(6, 0), 4, 0), over(plus(7))}, "1/2 0 -3/2"},
		{fracs{over(minus(), 1), over(plus(3), 3), over(minus(7), 0)}, "0 1"},
	} {
		if got := poly.Norm(c.a); !sameLine(got, line(c.want)) {
			t.Errorf("Norm(%v): %v; want %s", c.a, got, c.want)
		}
	}
}

func TestDegreeTable(t *testing.T) {
	for _, c := range []struct {
		a    fracs
		want int
	}{
		{nil, -1},
		{fracs{}, -1},
		{line("0"), -1},
		{line("0 0 0 0 0"), -1},
		{fracs{{}}, -1},
		{fracs{{}, {}, over(minus(), 1)}, -1},
		{fracs{over(plus(7))}, -1},
		{fracs{over(minus(7), 0, 0), over(plus(0, 0), 1)}, -1},
		{line("1"), 0},
		{line("-1/2 0 0"), 0},
		{fracs{over(plus(2), 4), over(plus(2))}, 0},
		{line("0 1"), 1},
		{line("1 1"), 1},
		{line("1 -1 0"), 1},
		{line("0 0 3"), 2},
		{line("1 0 0 0 2 0"), 4},
		{fracs{{}, {}, {}, over(minus(9), 3), {}}, 3},
		{power(1000), 1000},
	} {
		if got := poly.Degree(c.a); got != c.want {
			t.Errorf("Degree(%v): %d; want %d", c.a, got, c.want)
		}
	}
}

// Each of a row's places in turn has the last coefficient that isn't 0, in each way to write such ones and noughts.
func TestDegreeIsTheLastPlaceThatIsntNought(t *testing.T) {
	for n := range 6 {
		for _, c := range several() {
			for _, zero := range naughts() {
				a := slices.Repeat(fracs{zero}, 6)
				a[n] = c
				want := -1
				if value(c).Sign() != 0 {
					want = n
				}
				if got := poly.Degree(a); got != want {
					t.Fatalf("Degree(%v): %d; want %d", a, got, want)
				}
				if got := poly.Norm(a); len(got) != want+1 {
					t.Fatalf("Norm(%v): %v", a, got)
				}
			}
		}
	}
}

func TestSameTable(t *testing.T) {
	for _, c := range []struct {
		a, b fracs
		want bool
	}{
		{nil, nil, true},
		{nil, fracs{}, true},
		{nil, line("0"), true},
		{nil, line("0 0 0"), true},
		{line("0"), fracs{{}, over(minus(7), 0)}, true},
		{line("1"), line("1 0 0"), true},
		{line("1 2"), line("1 2 0 0 0"), true},
		{line("0 1 0"), line("0 1"), true},
		{line("1/2 1"), fracs{over(plus(2), 4), over(plus(3, 0), 3, 0), {}}, true},
		{line("1"), nil, false},
		{line("1"), line("0 1"), false},
		{line("1"), line("-1"), false},
		{line("1"), line("1 1"), false},
		{line("0 1"), line("0 0 1"), false},
		{line("1 2 3"), line("2 2 3"), false},
		{line("1 2 3"), line("1 5/2 3"), false},
		{line("1 2 3"), line("1 2 -3"), false},
		{line("1 2 3"), line("1 2"), false},
		{line("1 2 3"), line("1 2 0"), false},
		{line("1 2 3"), line("3 2 1"), false},
		{line("1 2 3"), line("1 2 3 0 4"), false},
	} {
		if x, y := poly.Same(c.a, c.b), poly.Same(c.b, c.a); x != c.want || y != c.want {
			t.Errorf("Same(%v, %v): %v, and in turn %v", c.a, c.b, x, y)
		}
	}
}

// Rows that mean the same are the same, and aren't when one coefficient moves, however little.
func TestSameAtEachPlace(t *testing.T) {
	little := over(plus(1), behind(repeat(0, 9), 1)...)
	for n := range 6 {
		a := wound(n, 0, 5)
		for _, b := range forms(a) {
			for _, c := range forms(a) {
				if !poly.Same(b, c) {
					t.Fatalf("%v and %v", b, c)
				}
			}
			for i := range b {
				c := slices.Clone(b)
				c[i] = frac.Add(c[i], little)
				if poly.Same(b, c) || poly.Same(c, b) || !poly.Same(c, c) {
					t.Fatalf("%v and %v", b, c)
				}
			}
		}
	}
}

func TestAddAndSubTable(t *testing.T) {
	for _, c := range []struct{ a, b, sum, gap string }{
		{"", "", "", ""},
		{"0", "0 0", "", ""},
		{"1", "", "1", "1"},
		{"", "1", "1", "-1"},
		{"", "1 2 3", "1 2 3", "-1 -2 -3"},
		{"1 2", "3 4", "4 6", "-2 -2"},
		{"1 2 3", "1 2 3", "2 4 6", ""},
		{"1 2 3", "-1 -2 -3", "", "2 4 6"},
		{"1 2 3", "0 0 3", "1 2 6", "1 2"},
		{"1 2 3", "0 0 -3", "1 2", "1 2 6"},
		{"1 2 3", "0 -2 -3", "1", "1 4 6"},
		{"5 2 3", "4 2 3", "9 4 6", "1"},
		{"1 0 0 3", "1 0 0 -3", "2", "0 0 0 6"},
		{"1 2 3", "1", "2 2 3", "0 2 3"},
		{"1", "1 2 3", "2 2 3", "0 -2 -3"},
		{"1", "-1 0 3", "0 0 3", "2 0 -3"},
		{"-1 2", "1 -2 0 0 7", "0 0 0 0 7", "-2 4 0 0 -7"},
		{"1 2 0 0", "3 4", "4 6", "-2 -2"},
		{"1/2 1/3", "1/2 1/6", "1 1/2", "0 1/6"},
		{"0 1/2", "0 1/2", "0 1", ""},
	} {
		if got := poly.Add(line(c.a), line(c.b)); !sameLine(got, line(c.sum)) {
			t.Errorf("Add(%s, %s): %v; want %s", c.a, c.b, got, c.sum)
		}
		if got := poly.Sub(line(c.a), line(c.b)); !sameLine(got, line(c.gap)) {
			t.Errorf("Sub(%s, %s): %v; want %s", c.a, c.b, got, c.gap)
		}
	}
}

// From each place on, two polynomials take each other away.
func TestWhatIsTakenAwayFromAPlaceOn(t *testing.T) {
	for n := range 7 {
		for _, a := range []fracs{wound(n, 0, 5), rough(n, 2, true), bent(rough(n, 1, false))} {
			for i := range len(a) + 1 {
				b := slices.Clone(a)
				for k := range i {
					b[k] = frac.Sub(b[k], frac.Of(k-2))
				}
				checkPair(t, a, b)
				checkPair(t, a, poly.Scale(frac.Of(-1), b))
			}
		}
	}
}

func TestMulTable(t *testing.T) {
	for _, c := range []struct{ a, b, want string }{
		{"", "", ""},
		{"", "1 2 3", ""},
		{"0 0", "1 2 3", ""},
		{"0", "0", ""},
		{"2", "3", "6"},
		{"2", "1 2 3", "2 4 6"},
		{"1", "1 2 3", "1 2 3"},
		{"-1/2", "1 2 3", "-1/2 -1 -3/2"},
		{"0 1", "1 2 3", "0 1 2 3"},
		{"0 1", "0 1", "0 0 1"},
		{"0 0 2", "0 0 0 3", "0 0 0 0 0 6"},
		{"1 1", "1 -1", "1 0 -1"},
		{"1 1", "1 1", "1 2 1"},
		{"1 1", "1 -1 1", "1 0 0 1"},
		{"1 1 1 1", "-1 1", "-1 0 0 0 1"},
		{"1 0 1", "1 0 -1", "1 0 0 0 -1"},
		{"1 2 3", "4 5", "4 13 22 15"},
		{"4 5 0", "1 2 3 0 0", "4 13 22 15"},
		{"1/2 1/3", "1/4 -1/6", "1/8 0 -1/18"},
		{"1 3 3 1", "1 3 3 1", "1 6 15 20 15 6 1"},
	} {
		for range 2 {
			if got := poly.Mul(line(c.a), line(c.b)); !sameLine(got, line(c.want)) {
				t.Errorf("Mul(%s, %s): %v; want %s", c.a, c.b, got, c.want)
			}
			c.a, c.b = c.b, c.a
		}
	}
}

func TestScaleTable(t *testing.T) {
	for _, c := range []struct{ by, a, want string }{
		{"0", "", ""},
		{"0", "1 2 3", ""},
		{"1", "", ""},
		{"1", "0 0", ""},
		{"1", "1 2 3", "1 2 3"},
		{"1", "1 2 0", "1 2"},
		{"-1", "1 0 -3", "-1 0 3"},
		{"1/2", "1 2 3", "1/2 1 3/2"},
		{"-2/3", "3/2 0 0 6", "-1 0 0 -4"},
		{"4294967296", "1/4294967296 1", "1 4294967296"},
	} {
		if got := poly.Scale(fr(c.by), line(c.a)); !sameLine(got, line(c.want)) {
			t.Errorf("Scale(%s, %s): %v; want %s", c.by, c.a, got, c.want)
		}
	}
	for _, zero := range naughts() {
		for _, a := range lines() {
			if got := poly.Scale(zero, a); len(got) > 0 {
				t.Errorf("Scale(%v, %v): %v", zero, a, got)
			}
		}
	}
}

func TestEvalTable(t *testing.T) {
	for _, c := range []struct{ a, x, want string }{
		{"", "0", "0"},
		{"", "7", "0"},
		{"0 0", "7", "0"},
		{"3", "0", "3"},
		{"3", "7", "3"},
		{"-2/3 0", "-1/2", "-2/3"},
		{"0 1", "7", "7"},
		{"0 1", "0", "0"},
		{"5 1 1", "0", "5"},
		{"5 1 1", "1", "7"},
		{"5 1 1", "-1", "5"},
		{"1 2 3", "2", "17"},
		{"1 2 3", "-2", "9"},
		{"1 2 3", "-1/2", "3/4"},
		{"1 2 3", "1/3", "2"},
		{"1/2 1/3", "-3/2", "0"},
		{"0 0 0 0 1", "-2/3", "16/81"},
		{"-6 11 -6 1", "1", "0"},
		{"-6 11 -6 1", "2", "0"},
		{"-6 11 -6 1", "3", "0"},
		{"-6 11 -6 1", "4", "6"},
	} {
		if got := poly.Eval(line(c.a), fr(c.x)); !same(got, fr(c.want)) {
			t.Errorf("Eval(%s, %s): %v; want %s", c.a, c.x, got, c.want)
		}
	}
}

func TestDiffTable(t *testing.T) {
	for _, c := range []struct{ a, want string }{
		{"", ""},
		{"0", ""},
		{"0 0 0", ""},
		{"7", ""},
		{"-1/2 0 0", ""},
		{"0 1", "1"},
		{"5 -1/2", "-1/2"},
		{"1 0 -1", "0 -2"},
		{"1 1 1 1 1", "1 2 3 4"},
		{"4 0 0 0 2", "0 0 0 8"},
		{"4 0 0 0 2 0", "0 0 0 8"},
		{"0 1/2 1/2 1/3 1/4", "1/2 1 1 1"},
		{"0 0 0 0 0 -1/5", "0 0 0 0 -1"},
	} {
		if got := poly.Diff(line(c.a)); !sameLine(got, line(c.want)) {
			t.Errorf("Diff(%s): %v; want %s", c.a, got, c.want)
		}
	}
	for n := range 40 {
		if got := poly.Diff(power(n)); !sameLine(got, poly.Scale(frac.Of(n), power(max(n-1, 0)))) {
			t.Errorf("Diff of power %d: %v", n, got)
		}
	}
}

func TestDivTable(t *testing.T) {
	for _, c := range []struct{ a, b, q, r string }{
		{"", "1", "", ""},
		{"0 0", "1 2", "", ""},
		{"1", "1", "1", ""},
		{"6", "4", "3/2", ""},
		{"1 2 3", "1", "1 2 3", ""},
		{"1 2 3", "-2", "-1/2 -1 -3/2", ""},
		{"1 2 3", "-2 0 0", "-1/2 -1 -3/2", ""},
		{"1", "0 1", "", "1"},
		{"1 2", "1 2 3", "", "1 2"},
		{"1 2 0 0 0", "1 2 3", "", "1 2"},
		{"1 2 3", "1 2 3", "1", ""},
		{"2 4 6", "1 2 3", "2", ""},
		{"1 2 3", "2 4 6", "1/2", ""},
		{"1 2 4", "1 2 3", "4/3", "-1/3 -2/3"},
		{"1 1 3", "1 2 3", "1", "0 -1"},
		{"2 2 3", "1 2 3", "1", "1"},
		{"1 2", "4 3", "2/3", "-5/3"},
		{"-1 0 1", "-1 1", "1 1", ""},
		{"-1 0 1", "1 1", "-1 1", ""},
		{"1 0 1", "1 1", "-1 1", "2"},
		{"-1 0 1", "1 2", "-1/4 1/2", "-3/4"},
		{"-1 0 0 0 0 1", "-1 1", "1 1 1 1 1", ""},
		{"1 0 0 0 0 1", "0 0 1", "0 0 0 1", "1"},
		{"0 0 0 0 1", "1 0 2", "-1/4 0 1/2", "1/4"},
		{"0 0 0 6", "0 4", "0 0 3/2", ""},
		{"1 0 0 1", "1 0 0 0", "1 0 0 1", ""},
	} {
		q, r, ok := poly.Div(line(c.a), line(c.b))
		if !ok || !sameLine(q, line(c.q)) || !sameLine(r, line(c.r)) {
			t.Errorf("Div(%s, %s): %v, %v, %v; want %s, %s", c.a, c.b, q, r, ok, c.q, c.r)
		}
	}
	for _, zero := range forms(nil) {
		for _, a := range lines() {
			checkDiv(t, a, zero)
		}
	}
}

func TestGcdTable(t *testing.T) {
	for _, c := range []struct{ a, b, want string }{
		{"", "", ""},
		{"0", "0 0 0", ""},
		{"", "7", "1"},
		{"0", "-1/2 0", "1"},
		{"", "1 2", "1/2 1"},
		{"0 0", "2 -3 -4 0", "-1/2 3/4 1"},
		{"3", "5", "1"},
		{"3", "3", "1"},
		{"3", "1 2 3", "1"},
		{"1 1", "1 -1", "1"},
		{"1 1", "2 1", "1"},
		{"1 0 1", "-1 0 1", "1"},
		{"1 1", "1 0 0 2", "1"},
		{"-1 0 1", "-1 1", "-1 1"},
		{"-1 0 1", "1 1", "1 1"},
		{"-1 0 1", "3 3", "1 1"},
		{"-1 0 1", "1/2 -1/2", "-1 1"},
		{"1 2 3", "1 2 3", "1/3 2/3 1"},
		{"1 2 3", "-2 -4 -6", "1/3 2/3 1"},
		{"-1 0 1", "1 2 1", "1 1"},
		{"-6 11 -6 1", "-4 6 -2", "2 -3 1"},
		{"2 -3 1", "6 -5 1", "-2 1"},
		{"0 0 0 1", "0 0 1 1", "0 0 1"},
		{"0 5", "0 0 0 3", "0 1"},
		{"-1 0 0 0 0 0 1", "-1 0 0 0 1", "-1 0 1"},
		{"-1/4 0 1", "-1/2 1", "-1/2 1"},
		{"1/6 5/6 1", "1/3 2/3", "1/2 1"},
		{"1/6 5/6 1", "1/12 7/12 1", "1/3 1"},
		{"2 2/3 4", "1 1/3 2", "1/2 1/6 1"},
	} {
		for range 2 {
			if got := poly.Gcd(line(c.a), line(c.b)); !sameLine(got, line(c.want)) {
				t.Errorf("Gcd(%s, %s): %v; want %s", c.a, c.b, got, c.want)
			}
			c.a, c.b = c.b, c.a
		}
	}
	for _, a := range forms(nil) {
		for _, b := range forms(nil) {
			if got := poly.Gcd(a, b); len(got) > 0 {
				t.Errorf("Gcd(%v, %v): %v", a, b, got)
			}
		}
	}
}

func TestEachOne(t *testing.T) {
	for _, a := range append(lines(), rough(40, 3, true), power(300), wound(60, 1, 3)) {
		for _, b := range forms(a) {
			checkOne(t, b)
		}
	}
}

func TestEachWithEachFraction(t *testing.T) {
	for _, a := range append(lines(), rough(12, 3, true), power(40)) {
		for _, c := range append(several(), line("1 -1 2 -1/3 1000001")...) {
			checkWith(t, a, c)
			checkWith(t, bent(a), c)
		}
	}
}

func TestAllPairs(t *testing.T) {
	for _, a := range lines() {
		for _, b := range lines() {
			checkPair(t, a, b)
		}
	}
}

// Whatever the form, the answers are those of what it means.
func TestFormsOfPairs(t *testing.T) {
	for _, a := range []fracs{nil, line("2"), line("-1 0 1"), line("1 1/2 0 3")} {
		for _, b := range []fracs{nil, line("-1/2"), line("1 1"), line("1 0 -1"), line("-1 1/3 0 0 2")} {
			for _, x := range forms(a) {
				for _, y := range forms(b) {
					checkPair(t, x, y)
				}
			}
		}
	}
}

// unlike are pairs of many degrees, of whole numbers and fractions.
func unlike() [][2]fracs {
	var l [][2]fracs
	for _, n := range []int{0, 1, 2, 5, 14} {
		for _, m := range []int{0, 1, 3, 5, 13} {
			l = append(l, [2]fracs{rough(n, 1, false), rough(m, 2, false)}, [2]fracs{rough(n, 2, n+m < 20), rough(m, 1, true)})
		}
	}
	return l
}

func TestLongerPairs(t *testing.T) {
	for _, p := range unlike() {
		checkPair(t, p[0], p[1])
	}
	for _, n := range []int{1, 2, 3, 30, 299} {
		checkPair(t, poly.Sub(power(n), line("1")), line("-1 1"))
		checkPair(t, power(n), line("3 -2"))
		checkPair(t, poly.Add(power(n), line("1")), line("0 0 5"))
		checkPair(t, line("1 1"), poly.Add(power(n), line("1")))
	}
}

// Where the rests are of much lesser degrees than what is divided, the way goes on as well.
func TestGcdWhereDegreesJump(t *testing.T) {
	for n := 1; n <= 12; n++ {
		for m := 1; m <= 12; m++ {
			a, b := poly.Sub(power(n), line("1")), poly.Sub(power(m), line("1"))
			checkPair(t, a, b)
			checkPair(t, poly.Mul(a, line("2 0 0 3")), poly.Mul(b, line("1 0 1/2 0 0 7")))
			checkPair(t, poly.Mul(power(n), b), poly.Add(power(m), power(n)))
		}
	}
}

// Euclid's way over fractions as they come would take very long for this.
func TestGcdOfGreatDegree(t *testing.T) {
	c := rough(20, 2, true)
	a, b := rough(40, 2, false), rough(39, 3, false)
	if got := poly.Gcd(a, b); !sameLine(got, line("1")) {
		t.Fatalf("nothing in common: %v", got)
	}
	got, want := poly.Gcd(poly.Mul(a, c), poly.Mul(b, c)), poly.Gcd(c, nil)
	if !sameLine(got, want) || poly.Degree(want) != 20 {
		t.Fatalf("in common: %v; want %v", got, want)
	}
}

// points are values for the unknown.
func points() fracs { return append(line("0 1 -1 2 1/2 -2/3 -7 1000/999"), wound(6, 13, 3)...) }

func TestValuesOfSumsAndProducts(t *testing.T) {
	for _, a := range lines() {
		for _, b := range lines() {
			for _, x := range points()[:6] {
				v, w := poly.Eval(a, x), poly.Eval(b, x)
				if got := poly.Eval(poly.Add(a, b), x); !same(got, frac.Add(v, w)) {
					t.Fatalf("sum of %v and %v at %v: %v", a, b, x, got)
				}
				if got := poly.Eval(poly.Sub(a, b), x); !same(got, frac.Sub(v, w)) {
					t.Fatalf("%v less %v at %v: %v", a, b, x, got)
				}
				if got := poly.Eval(poly.Mul(a, b), x); !same(got, frac.Mul(v, w)) {
					t.Fatalf("product of %v and %v at %v: %v", a, b, x, got)
				}
			}
		}
		for _, x := range points() {
			for _, c := range points() {
				if got := poly.Eval(poly.Scale(c, a), x); !same(got, frac.Mul(c, poly.Eval(a, x))) {
					t.Fatalf("%v times %v at %v: %v", c, a, x, got)
				}
			}
		}
	}
}

func TestDerivativesOfSumsAndProducts(t *testing.T) {
	for _, a := range lines() {
		for _, b := range lines() {
			if got, want := poly.Diff(poly.Add(a, b)), poly.Add(poly.Diff(a), poly.Diff(b)); !sameLine(got, want) {
				t.Fatalf("sum of %v and %v: %v; want %v", a, b, got, want)
			}
			got, want := poly.Diff(poly.Mul(a, b)), poly.Add(poly.Mul(poly.Diff(a), b), poly.Mul(a, poly.Diff(b)))
			if !sameLine(got, want) {
				t.Fatalf("product of %v and %v: %v; want %v", a, b, got, want)
			}
		}
	}
}

func TestTheCommonDivisorDividesBoth(t *testing.T) {
	for _, a := range lines() {
		for _, b := range lines() {
			g := poly.Gcd(a, b)
			if poly.Degree(a) < 0 && poly.Degree(b) < 0 {
				continue
			}
			if !same(g[len(g)-1], frac.Of(1)) {
				t.Fatalf("Gcd(%v, %v): %v", a, b, g)
			}
			x, r, ok := poly.Div(a, g)
			y, s, sure := poly.Div(b, g)
			if !ok || !sure || len(r) > 0 || len(s) > 0 {
				t.Fatalf("Gcd(%v, %v): %v leaves %v and %v", a, b, g, r, s)
			}
			if got := poly.Gcd(x, y); !sameLine(got, line("1")) {
				t.Fatalf("of %v and %v %v leaves %v in common", a, b, g, got)
			}
			if got := poly.Gcd(b, a); !sameLine(got, g) {
				t.Fatalf("Gcd(%v, %v): %v; want %v", b, a, got, g)
			}
		}
	}
}

func TestTheCommonDivisorOfProducts(t *testing.T) {
	l := append([]fracs{nil, line("2"), line("-1 0 1"), line("1 2 1"), line("0 3"), line("1/2 1/3")}, wound(3, 0, 5), wound(4, 21, 3), wound(5, 2, 6))
	for _, a := range l {
		for _, b := range l {
			for _, c := range l {
				got, want := poly.Gcd(poly.Mul(a, c), poly.Mul(b, c)), poly.Mul(poly.Gcd(a, b), c)
				if len(want) > 0 {
					per, _ := frac.Quo(frac.Of(1), want[len(want)-1])
					want = poly.Scale(per, want)
				}
				if !sameLine(got, want) {
					t.Fatalf("%v and %v, times %v: %v; want %v", a, b, c, got, want)
				}
			}
		}
	}
}

func TestWhatIsDividedComesBack(t *testing.T) {
	for _, a := range append(lines(), rough(9, 2, true)) {
		for _, b := range append(lines(), rough(4, 3, true)) {
			if poly.Degree(b) < 0 {
				continue
			}
			q, r, ok := poly.Div(a, b)
			if got := poly.Add(poly.Mul(q, b), r); !ok || !sameLine(got, poly.Norm(a)) || poly.Degree(r) >= poly.Degree(b) {
				t.Fatalf("Div(%v, %v): %v, %v, %v", a, b, q, r, ok)
			}
			q, r, ok = poly.Div(poly.Add(poly.Mul(a, b), poly.Diff(b)), b)
			if !ok || !sameLine(q, poly.Norm(a)) || !sameLine(r, poly.Diff(b)) {
				t.Fatalf("%v times %v, and its derivative: %v, %v, %v", a, b, q, r, ok)
			}
		}
	}
}

// answers is what calls tell: what is written out, and the polynomials and values that are answered.
type answers struct {
	told  strings.Builder
	polys []fracs
	vals  fracs
}

func (k *answers) poly(a fracs) {
	k.polys = append(k.polys, a)
	fmt.Fprintln(&k.told, wordsOf(a))
}

func (k *answers) val(a fraction) {
	k.vals = append(k.vals, a)
	fmt.Fprintln(&k.told, wordsOf(fracs{a}))
}

// rows are all lists of fractions that were answered, and the values as one more.
func (k *answers) rows() []fracs { return append(slices.Clone(k.polys), k.vals) }

// lists are all lists of words that were answered, those in spare room too.
func (k *answers) lists() []list {
	var l []list
	for _, r := range k.rows() {
		for _, c := range r[:cap(r)] {
			l = append(l, c.Num.Abs, c.Den)
		}
	}
	return l
}

// wordsOf writes a row to the word; nil lists are empty ones.
func wordsOf(a fracs) string {
	var s strings.Builder
	for _, c := range a {
		fmt.Fprint(&s, c.Num.Neg, c.Num.Abs, c.Den, " ")
	}
	return s.String()
}

// A handful is what calls are made with.
type handful struct {
	a, b fracs
	x    fraction
}

func handfuls() []handful {
	return []handful{
		{nil, nil, fraction{}},
		{fracs{}, line("0"), fr("0")},
		{line("0 0"), fracs{{}, over(minus(7), 0)}, fr("-1")},
		{line("1"), line("-1/2"), fr("1")},
		{line("1 1"), line("1 -1"), fr("1/2")},
		{line("-1 0 1"), line("-1 1"), over(plus(2), 4)},
		{line("-1 1 0"), line("-1 0 1 0 0"), over(minus(6, 0), 4, 0)},
		{line("1 2 3"), line("-1 2 -3"), fr("-2/3")},
		{line("1 2 3"), line("1"), over(plus(7))},
		{line("2"), line("1 2 3 4"), over(minus(0), 6, 0)},
		{wound(3, 0, 1), wound(4, 5, 2), over(plus(noise(3)...), noise(2)...)},
		{wound(5, 12, 3), wound(5, 12, 3), fr("3")},
		{wound(6, 1, 4), naughts(), over(minus(12), 18)},
		{bent(line("-6 11 -6 1 0")), bent(line("6 -5 1")), fr("2")},
		{rough(5, 2, true), rough(4, 1, false), over(plus(greatest, greatest), greatest)},
	}
}

// calls are all calls, made with these.
func (h handful) calls() *answers {
	k := new(answers)
	for _, a := range []fracs{h.a, h.b} {
		k.poly(poly.Norm(a))
		k.poly(poly.Scale(h.x, a))
		k.poly(poly.Diff(a))
		k.val(poly.Eval(a, h.x))
		fmt.Fprintln(&k.told, poly.Degree(a))
		for _, b := range []fracs{h.a, h.b} {
			fmt.Fprintln(&k.told, poly.Same(a, b))
			k.poly(poly.Add(a, b))
			k.poly(poly.Sub(a, b))
			k.poly(poly.Mul(a, b))
			q, r, ok := poly.Div(a, b)
			k.poly(q)
			k.poly(r)
			fmt.Fprintln(&k.told, ok)
			k.poly(poly.Gcd(a, b))
		}
	}
	return k
}

// lendList hands out a with spare room behind it, whose words show who wrote there, or who read.
func lendList(a list, fill uint32) list { return behind(a, fill, fill, fill)[:len(a)] }

func lend(a fraction, fill uint32) fraction {
	return fraction{Num: number{Neg: a.Num.Neg, Abs: lendList(a.Num.Abs, fill)}, Den: lendList(a.Den, fill)}
}

func lendLine(a fracs, fill uint32) fracs {
	var l fracs
	for _, c := range append(slices.Clone(a), over(plus(fill), fill), over(minus(fill, 1), 1), over(plus(3), 1), fraction{}) {
		l = append(l, lend(c, fill))
	}
	return l[:len(a)]
}

func (h handful) lent(fill uint32) handful {
	return handful{lendLine(h.a, fill), lendLine(h.b, fill), lend(h.x, fill)}
}

func room(a list) list { return a[:cap(a)] }

// rooms writes rows with all that lies in their spare room, and in that of the fractions.
func rooms(l ...fracs) string {
	var s strings.Builder
	for _, r := range l {
		fmt.Fprint(&s, len(r), ":")
		for _, c := range r[:cap(r)] {
			fmt.Fprint(&s, c.Num.Neg, len(c.Num.Abs), room(c.Num.Abs), len(c.Den), room(c.Den), " ")
		}
	}
	return s.String()
}

func (h handful) rooms() string { return rooms(h.a, h.b, fracs{h.x}) }

func (k *answers) rooms() string { return rooms(k.rows()...) }

// checkLists turns the words of one list after the other over, and asks whether those behind it stay; nothing stays of what is handed in.
func checkLists(t *testing.T, call string, lists []list) {
	t.Helper()
	var full []list
	for _, a := range lists {
		full = append(full, room(a))
	}
	for i, a := range full {
		rest := slices.Concat(full[i+1:]...)
		for k := range a {
			a[k] = ^a[k]
		}
		if !slices.Equal(slices.Concat(full[i+1:]...), rest) {
			t.Fatalf("%s: list %d shares memory with another one", call, i)
		}
	}
}

// spoil writes on all of a row, its spare room too, but not on what its fractions hold.
func spoil(a fracs) {
	for i := range a[:cap(a)] {
		a[:cap(a)][i] = over(minus(4711), 815)
	}
}

func TestWhatIsHandedInIsLeft(t *testing.T) {
	for i, h := range handfuls() {
		want := h.calls().told.String()
		for _, fill := range []uint32{0, 1, greatest} {
			x := h.lent(fill)
			before := x.rooms()
			// The same answers whatever lies behind the lengths, so that isn't read.
			if got := x.calls().told.String(); got != want {
				t.Fatalf("%d with %d behind: %s; want %s", i, fill, got, want)
			}
			if after := x.rooms(); after != before {
				t.Fatalf("%d with %d behind: made of it %s", i, fill, after)
			}
		}
	}
}

// No list of words of an answer is one of an argument, or of another answer, or stands in the answer twice.
func TestAnswersListsAreNewMemory(t *testing.T) {
	for i, h := range handfuls() {
		x := h.lent(5)
		first, second := x.calls(), x.calls()
		want := second.told.String()
		before, rest := x.rooms(), second.rooms()
		checkLists(t, fmt.Sprint(i), first.lists())
		if x.rooms() != before {
			t.Fatalf("%d: an answer shares memory with an argument", i)
		}
		if second.rooms() != rest {
			t.Fatalf("%d: an answer shares memory with that of the same call", i)
		}
		if got := x.calls().told.String(); got != want {
			t.Fatalf("%d: %s, then %s", i, want, got)
		}
	}
}

// So it is with the rows themselves, and with what lies behind them: quotient and rest share none.
func TestAnswersRowsAreNewMemory(t *testing.T) {
	for i, h := range handfuls() {
		x := h.lent(5)
		first, second := x.calls(), x.calls()
		before, rest := x.rooms(), second.rooms()
		all := first.rows()
		for k, r := range all {
			behind := rooms(all[k+1:]...)
			spoil(r)
			if rooms(all[k+1:]...) != behind {
				t.Fatalf("%d: row %d shares memory with another one", i, k)
			}
		}
		if x.rooms() != before {
			t.Fatalf("%d: a row is an argument's", i)
		}
		if second.rooms() != rest {
			t.Fatalf("%d: a row is one of the same call's", i)
		}
	}
}

// What was handed in is written on behind the call: what was answered must not move.
func TestWhatIsHandedInIsNotKept(t *testing.T) {
	for i, h := range handfuls() {
		x := h.lent(5)
		k := x.calls()
		before := k.rooms()
		for _, r := range []fracs{x.a, x.b, {x.x}} {
			for _, c := range r[:cap(r)] {
				for _, w := range []list{room(c.Num.Abs), room(c.Den)} {
					for n := range w {
						w[n] = ^w[n]
					}
				}
			}
			spoil(r)
		}
		if k.rooms() != before {
			t.Fatalf("%d: an answer moves with what was handed in", i)
		}
	}
}

// One row may be both, and one fraction stand at all places, and be the unknown.
func TestOneAtAllPlaces(t *testing.T) {
	for _, c := range several() {
		for n := range 5 {
			x := lend(c, 5)
			a := lendLine(nil, 7)
			for range n {
				a = append(a, x)
			}
			before := rooms(a, fracs{x})
			checkOne(t, a)
			checkPair(t, a, a)
			checkPair(t, a, a[n/2:])
			checkWith(t, a, x)
			h := handful{a, a, x}
			checkLists(t, fmt.Sprint(a), h.calls().lists())
			if rooms(a, fracs{x}) != before {
				t.Fatalf("%v of %v: made of it %s", n, c, rooms(a))
			}
		}
	}
}

// What is answered is right where what is handed in is not.
func TestAnswersAreRight(t *testing.T) {
	for i, h := range handfuls() {
		k := h.calls()
		for _, a := range k.polys {
			if len(a) > 0 && frac.Sign(a[len(a)-1]) == 0 {
				t.Fatalf("%d: %v ends with 0", i, a)
			}
		}
		for _, c := range slices.Concat(k.rows()...) {
			if !same(c, of(value(c))) || !frac.Right(c) {
				t.Fatalf("%d: %v isn't right", i, c)
			}
		}
	}
}

// Noughts at the end of rows and lists, however many, cost no more than to go over them.
func TestNoughtsAtTheEndAreCheap(t *testing.T) {
	end := repeat(0, 500000)
	for i, h := range handfuls() {
		if i%3 != 0 {
			continue
		}
		long := handful{append(slices.Clone(h.a), slices.Repeat(naughts()[:4], 30000)...), append(slices.Clone(h.b), noughts(100000)...), h.x}
		long.a = append(long.a, over(plus(end...), 1), over(plus(1), end...))
		long.x.Den = behind(long.x.Den, end...)
		if got, want := long.calls().told.String(), h.calls().told.String(); got != want {
			t.Fatalf("%d: %s; want %s", i, got, want)
		}
	}
}

func TestExamples(t *testing.T) {
	if got := poly.Mul(line("1 1"), line("1 -1")); !sameLine(got, line("1 0 -1")) {
		t.Error(got)
	}
	if got := poly.Diff(line("1 0 -1")); !sameLine(got, line("0 -2")) {
		t.Error(got)
	}
	if got := poly.Gcd(line("-1 0 1"), line("-1 1")); !sameLine(got, line("-1 1")) {
		t.Error(got)
	}
}
