package ratf_test

import (
	"fmt"
	"math"
	"math/big"
	"slices"
	"strings"
	"testing"

	"retrospect/api"
	"retrospect/frac"
	"retrospect/poly"
	"retrospect/ratf"
	"retrospect/whole"
)

const greatest = 0xffffffff

type (
	list     = []uint32
	number   = whole.Whole
	fraction = frac.Frac
	fracs    = []frac.Frac
	function = ratf.Fun
	rats     = []*big.Rat
)

func plus(w ...uint32) number { return number{Abs: w} }

func minus(w ...uint32) number { return number{Neg: true, Abs: w} }

// over writes a fraction as it stands, right or not.
func over(num number, den ...uint32) fraction { return fraction{Num: num, Den: den} }

func repeat(w uint32, n int) list { return slices.Repeat(list{w}, n) }

func behind(a list, w ...uint32) list { return append(slices.Clone(a), w...) }

func natural(a list) *big.Int {
	n := new(big.Int)
	for i := len(a) - 1; i >= 0; i-- {
		n.Or(n.Lsh(n, 32), big.NewInt(int64(a[i])))
	}
	return n
}

func value(a fraction) *big.Rat {
	den := natural(a.Den)
	if den.Sign() == 0 {
		return new(big.Rat)
	}
	num := natural(a.Num.Abs)
	if a.Num.Neg {
		num.Neg(num)
	}
	return new(big.Rat).SetFrac(num, den)
}

func words(n *big.Int) list {
	var a list
	for n = new(big.Int).Abs(n); n.Sign() > 0; n.Rsh(n, 32) {
		a = append(a, uint32(n.Uint64()))
	}
	return a
}

// of is the right fraction of a value, as math/big cancels it.
func of(r *big.Rat) fraction {
	return fraction{Num: number{Neg: r.Sign() < 0, Abs: words(r.Num())}, Den: words(r.Denom())}
}

// fr is told by a whole number, or by two with a / between.
func fr(s string) fraction {
	r, ok := new(big.Rat).SetString(s)
	if !ok {
		panic(s + " is no fraction")
	}
	return of(r)
}

// line is a row of right fractions, told with spaces between; as a polynomial it need not be right.
func line(s string) fracs {
	var a fracs
	for _, c := range strings.Fields(s) {
		a = append(a, fr(c))
	}
	return a
}

// fun is told by Up and Down with a : between, and stands as it's told, right or not.
func fun(s string) function {
	up, down, ok := strings.Cut(s, ":")
	if !ok {
		panic(s + " is no function")
	}
	return function{Up: line(up), Down: line(down)}
}

// same tells whether two are the same to the word; nil and empty lists are one.
func same(a, b fraction) bool {
	return a.Num.Neg == b.Num.Neg && slices.Equal(a.Num.Abs, b.Num.Abs) && slices.Equal(a.Den, b.Den)
}

func sameFun(a, b function) bool {
	return slices.EqualFunc(a.Up, b.Up, same) && slices.EqualFunc(a.Down, b.Down, same)
}

// noughts are n right ones.
func noughts(n int) fracs { return slices.Repeat(fracs{over(plus(), 1)}, n) }

// power is the unknown's n-th one.
func power(n int) fracs { return append(noughts(n), frac.Of(1)) }

// What fails on one of the lists without a pattern must fail again, so they are always the same ones.
func noise(n int) list {
	x := uint32(2463534242) + uint32(n)
	a := make(list, n)
	for i := range a {
		x ^= x << 13
		x ^= x >> 17
		x ^= x << 5
		a[i] = x
	}
	return a
}

// rough is a polynomial of degree n without a pattern, of whole numbers or of fractions; unlike seeds tell unlike ones.
func rough(n, seed int, fractions bool) fracs {
	var a fracs
	w := noise(2*n + 2 + seed)
	for i := range n + 1 {
		c := over(number{Neg: w[2*i]%3 == 0, Abs: list{w[2*i]%1000 + 1}}, 1)
		if fractions {
			c.Den = list{w[2*i+1]%60 + 1}
		}
		a = append(a, frac.Norm(c))
	}
	return a
}

// several are fractions right, and not right in all ways, some of one value in several ways; 0 in all forms among them.
func several() fracs {
	return fracs{
		over(plus(1), 2), over(minus(3), 4), over(plus(5), 1), over(plus(), 1), over(minus(1), 1), over(plus(2), 4), over(minus(6, 0), 4, 0), over(plus(7)), {}, over(minus(7), 0), over(minus(0), 6, 0), {Num: minus(1, 2, 3), Den: repeat(0, 20)},
		over(plus(4), 6), over(plus(2), 3), over(minus(14), 0, 7), over(plus(1), greatest), over(minus(0, 1), 6), over(plus(1, 1), 1, 0), over(minus(5), 12), over(plus(7, 0), 18, 0, 0), over(plus(noise(2)...), noise(1)...), over(minus(12), 18), over(plus(1, 0), 1), over(minus(), 3),
	}
}

// naughts are those of several that stand for 0.
func naughts() fracs {
	return slices.DeleteFunc(several(), func(a fraction) bool { return value(a).Sign() != 0 })
}

// wound is a row of several's fractions, n of them from one place on, round and round.
func wound(n, from, by int) fracs {
	all := several()
	var a fracs
	for i := range n {
		a = append(a, all[(from+i*by)%len(all)])
	}
	return a
}

// bent tells each fraction of a by greater numbers, none of them right.
func bent(a fracs) fracs {
	var b fracs
	for i, c := range a {
		x := value(c)
		by := big.NewInt(int64(2 + i%5))
		num := words(new(big.Int).Mul(x.Num(), by))
		b = append(b, over(number{Neg: x.Sign() < 0 || x.Sign() == 0 && i%2 == 0, Abs: behind(num, repeat(0, i%3)...)}, behind(words(by.Mul(by, x.Denom())), 0)...))
	}
	return b
}

func bentFun(a function) function { return function{Up: bent(a.Up), Down: bent(a.Down)} }

// noughtRows are polynomials that mean 0.
func noughtRows() []fracs {
	l := []fracs{nil, {}, noughts(1), noughts(4), naughts()}
	for _, c := range naughts() {
		l = append(l, fracs{c})
	}
	return l
}

// zeros are functions that mean 0, by Up or by Down or by both.
func zeros() []function {
	var l []function
	for _, nought := range noughtRows() {
		for _, other := range append(noughtRows(), line("1"), line("-2/3"), line("0 1"), line("1 2 0"), bent(line("-1 0 1 0"))) {
			l = append(l, function{Up: nought, Down: other}, function{Up: other, Down: nought})
		}
	}
	return l
}

// forms are some ways to write what a means.
func forms(a function) []function {
	if len(meant(a).up) == 0 {
		var l []function
		for i, zero := range zeros() {
			if i%29 == 0 {
				l = append(l, zero)
			}
		}
		return l
	}
	l := []function{a, bentFun(a), {Up: append(slices.Clone(a.Up), noughts(1)...), Down: append(bent(a.Down), naughts()...)}, {Up: append(bent(a.Up), naughts()...), Down: append(slices.Clone(a.Down), noughts(3)...)}}
	for _, c := range []fracs{line("-1"), line("2/3"), line("0 1"), line("1 1"), line("-1/2 0 2 0"), line("2 -3 1"), wound(4, 3, 2)} {
		b := function{Up: poly.Mul(a.Up, c), Down: poly.Mul(a.Down, c)}
		l = append(l, b, bentFun(b))
	}
	return l
}

// functions are right and not right, 0 in some forms among them.
func functions() []function {
	l := []function{{}, {Up: naughts(), Down: line("1 1")}, {Up: line("1 1"), Down: naughts()}}
	for _, s := range []string{
		":", ": 1", "0 0 : 1 1 0", "1 :", "1 2 : 0 0 0", "1 : 1", "-1 : 1", "2 : 3", "-3/2 : 1/2 0", "0 1 : 1", "0 1 : 0 1", "1 : 0 1", "-1 : 0 1 0", "1/2 : 0 0 1", "1 : 1 1", "1 : -1 1", "1 : -1 0 1", "2 : 1 0 -1", "1 1 : -1 0 1",
		"-1 1 : 1 1", "1 1 : -1 1", "1 2 1 : 1 1", "0 0 1 : 1 0 1", "1 0 1 : 0 0 1 0", "1/2 1/3 : 1/4 1/5", "3 2 : 2 3 0", "-6 11 -6 1 : 2 -3 1", "1 : -6 11 -6 1", "0 1 : 1 2 1", "1 : 1 2 1", "1 0 0 0 0 -1 : 1 -1", "4294967295 1 : 1 4294967296", "0 0 3 : 1", "1 0 -2 : 5",
	} {
		l = append(l, fun(s))
	}
	for n := range 4 {
		l = append(l, function{Up: wound(n+1, 3*n, n+1), Down: wound(4-n, 5*n+2, 3)}, function{Up: wound(3, 7*n+1, 5), Down: wound(n, 4*n, 3)})
	}
	return append(l, bentFun(fun("-1 0 1 : 1 1")), bentFun(fun("1 : 2 -3 1 0")))
}

// points are values for the unknown; some of functions have none at some of them.
func points() fracs {
	return append(line("0 1 -1 2 3 1/2 -1/2 -2/3 -3/2 -7 1000/999"), over(plus(2), 2), over(minus(4, 0), 4), over(plus(7)), over(minus(), 3), over(minus(0, 1), 6))
}

// values are those of a's coefficients, up to the last one that isn't 0.
func values(a fracs) rats {
	var l rats
	for _, c := range a {
		l = append(l, value(c))
	}
	return trimmed(l)
}

func trimmed(a rats) rats {
	for len(a) > 0 && a[len(a)-1].Sign() == 0 {
		a = a[:len(a)-1]
	}
	return a
}

func blank(n int) rats {
	a := make(rats, n)
	for i := range a {
		a[i] = new(big.Rat)
	}
	return a
}

func sum(a, b rats) rats {
	s := blank(max(len(a), len(b)))
	for i := range s {
		if i < len(a) {
			s[i].Add(s[i], a[i])
		}
		if i < len(b) {
			s[i].Add(s[i], b[i])
		}
	}
	return trimmed(s)
}

func scaled(c *big.Rat, a rats) rats {
	s := blank(len(a))
	for i := range a {
		s[i].Mul(c, a[i])
	}
	return trimmed(s)
}

func turned(a rats) rats { return scaled(big.NewRat(-1, 1), a) }

func product(a, b rats) rats {
	p := blank(len(a) + len(b))
	for i := range a {
		for k := range b {
			p[i+k].Add(p[i+k], new(big.Rat).Mul(a[i], b[k]))
		}
	}
	return trimmed(p)
}

// at adds up the powers, each taken as often as its coefficient tells.
func at(a rats, x *big.Rat) *big.Rat {
	s, p := new(big.Rat), big.NewRat(1, 1)
	for _, c := range a {
		s.Add(s, new(big.Rat).Mul(c, p))
		p.Mul(p, x)
	}
	return s
}

func slope(a rats) rats {
	d := blank(max(len(a)-1, 0))
	for i := range d {
		d[i].Mul(big.NewRat(int64(i+1), 1), a[i+1])
	}
	return d
}

// divided asks for a b that isn't 0.
func divided(a, b rats) (q, r rats) {
	r = a
	for len(r) >= len(b) {
		step := blank(len(r) - len(b) + 1)
		step[len(step)-1].Quo(r[len(r)-1], b[len(b)-1])
		q, r = sum(q, step), sum(r, turned(product(step, b)))
	}
	return q, r
}

func monic(a rats) rats {
	if len(a) == 0 {
		return nil
	}
	return scaled(new(big.Rat).Inv(a[len(a)-1]), a)
}

func common(a, b rats) rats {
	for len(b) > 0 {
		_, r := divided(a, b)
		a, b = b, monic(r)
	}
	return monic(a)
}

// A ratio is what is meant, with nothing left to be cancelled.
type ratio struct{ up, down rats }

func reduced(up, down rats) ratio {
	if len(down) == 0 {
		return ratio{nil, rats{big.NewRat(1, 1)}}
	}
	g := common(up, down)
	up, _ = divided(up, g)
	down, _ = divided(down, g)
	return ratio{scaled(new(big.Rat).Inv(down[len(down)-1]), up), monic(down)}
}

func meant(a function) ratio { return reduced(values(a.Up), values(a.Down)) }

func (a ratio) plus(b ratio) ratio {
	return reduced(sum(product(a.up, b.down), product(b.up, a.down)), product(a.down, b.down))
}

func (a ratio) turned() ratio { return ratio{turned(a.up), a.down} }

func (a ratio) times(b ratio) ratio { return reduced(product(a.up, b.up), product(a.down, b.down)) }

func (a ratio) under() ratio { return reduced(a.down, a.up) }

func (a ratio) power(e int) ratio {
	if e < 0 {
		a, e = a.under(), -e
	}
	p := reduced(rats{big.NewRat(1, 1)}, rats{big.NewRat(1, 1)})
	for range e {
		p = ratio{product(p.up, a.up), product(p.down, a.down)}
	}
	return p
}

func (a ratio) slope() ratio {
	return reduced(sum(product(slope(a.up), a.down), turned(product(a.up, slope(a.down)))), product(a.down, a.down))
}

// A call is told by its name and what it was made with; it is written out only where it's told wrong.
type call struct {
	name string
	with []any
}

func calling(name string, with ...any) call { return call{name, with} }

func (c call) String() string { return fmt.Sprint(c.name, c.with) }

// checkFun asks for the right one, to the word.
func checkFun(t *testing.T, c call, got function, want ratio) {
	t.Helper()
	alike := func(a fraction, r *big.Rat) bool { return same(a, of(r)) }
	if !slices.EqualFunc(got.Up, want.up, alike) || !slices.EqualFunc(got.Down, want.down, alike) {
		t.Fatalf("%v: %v over %v; want %v over %v", c, got.Up, got.Down, want.up, want.down)
	}
}

// checkNot asks for the right 0 beside the false.
func checkNot(t *testing.T, c call, got function, ok bool) {
	t.Helper()
	if ok || !sameFun(got, fun(": 1")) {
		t.Fatalf("%v: %v, %v; want 0, false", c, got, ok)
	}
}

func checkOne(t *testing.T, a function) {
	t.Helper()
	want := meant(a)
	checkFun(t, calling("Norm", a), ratf.Norm(a), want)
	checkFun(t, calling("Neg", a), ratf.Neg(a), want.turned())
	checkFun(t, calling("Diff", a), ratf.Diff(a), want.slope())
	if got := ratf.Zero(a); got != (len(want.up) == 0) {
		t.Fatalf("Zero(%v): %v", a, got)
	}
	got, ok := ratf.New(a.Up, a.Down)
	if len(values(a.Down)) == 0 {
		checkNot(t, calling("New", a), got, ok)
		return
	}
	checkFun(t, calling("New", a), got, want)
	if !ok {
		t.Fatalf("New(%v): false", a)
	}
}

func checkPow(t *testing.T, a function, want ratio, e int) {
	t.Helper()
	got, ok := ratf.Pow(a, e)
	if e < -api.MaxExp || e > api.MaxExp || e < 0 && len(want.up) == 0 {
		checkNot(t, calling("Pow", a, e), got, ok)
		return
	}
	checkFun(t, calling("Pow", a, e), got, want.power(e))
	if !ok {
		t.Fatalf("Pow(%v, %d): false", a, e)
	}
}

func checkEval(t *testing.T, a function, want ratio, x fraction) {
	t.Helper()
	up, down := at(want.up, value(x)), at(want.down, value(x))
	there := down.Sign() != 0
	if there {
		up.Quo(up, down)
	} else {
		up = new(big.Rat)
	}
	if got, ok := ratf.Eval(a, x); ok != there || !same(got, of(up)) {
		t.Fatalf("Eval(%v, %v): %v, %v; want %v, %v", a, x, got, ok, up, there)
	}
}

func checkPair(t *testing.T, a, b function) {
	t.Helper()
	x, y := meant(a), meant(b)
	gap := x.plus(y.turned())
	if got := ratf.Same(a, b); got != (len(gap.up) == 0) {
		t.Fatalf("Same(%v, %v): %v", a, b, got)
	}
	checkFun(t, calling("Add", a, b), ratf.Add(a, b), x.plus(y))
	checkFun(t, calling("Sub", a, b), ratf.Sub(a, b), gap)
	checkFun(t, calling("Mul", a, b), ratf.Mul(a, b), x.times(y))
	got, ok := ratf.Quo(a, b)
	if len(y.up) == 0 {
		checkNot(t, calling("Quo", a, b), got, ok)
		return
	}
	checkFun(t, calling("Quo", a, b), got, x.times(y.under()))
	if !ok {
		t.Fatalf("Quo(%v, %v): false", a, b)
	}
}

func TestNewAndNormTable(t *testing.T) {
	for _, c := range []struct{ a, want string }{
		{": 1", ": 1"},
		{"0 : 7", ": 1"},
		{"0 0 : -1/2 0", ": 1"},
		{": 0 1", ": 1"},
		{": 5 0 -3 2", ": 1"},
		{"1 : 1", "1 : 1"},
		{"6 : 4", "3/2 : 1"},
		{"3/2 : -3/4 0", "-2 : 1"},
		{"1 2 : 1", "1 2 : 1"},
		{"1 2 0 : 2 0", "1/2 1 : 1"},
		{"1 : 0 1", "1 : 0 1"},
		{"1 : 0 2", "1/2 : 0 1"},
		{"1 : 1 -1", "-1 : -1 1"},
		{"2 3 : 5 7", "2/7 3/7 : 5/7 1"},
		{"1 : 0 0 -2 0", "-1/2 : 0 0 1"},
		{"0 1 : 0 1", "1 : 1"},
		{"0 3 : 0 2", "3/2 : 1"},
		{"0 1 : 0 0 1", "1 : 0 1"},
		{"0 0 1 : 0 1", "0 1 : 1"},
		{"1 2 3 : 1 2 3", "1 : 1"},
		{"1 2 3 : -2 -4 -6", "-1/2 : 1"},
		{"-1 0 1 : -1 1", "1 1 : 1"},
		{"-1 1 : -1 0 1", "1 : 1 1"},
		{"-1 0 1 : 1 2 1", "-1 1 : 1 1"},
		{"-1 0 1 : 2 4 2", "-1/2 1/2 : 1 1"},
		{"-6 11 -6 1 : -4 6 -2", "3/2 -1/2 : 1"},
		{"1 0 1 : -1 0 1", "1 0 1 : -1 0 1"},
		{"0 1 : 1 0 1", "0 1 : 1 0 1"},
		{"1/6 5/6 1 : 1/12 7/12 1", "1/2 1 : 1/4 1"},
		{"-1 0 0 0 0 0 1 0 : -1 0 0 0 1 0 0", "1 0 1 0 1 : 1 0 1"},
	} {
		a := fun(c.a)
		if got, ok := ratf.New(a.Up, a.Down); !ok || !sameFun(got, fun(c.want)) {
			t.Errorf("New(%s): %v, %v; want %s", c.a, got, ok, c.want)
		}
		if got := ratf.Norm(a); !sameFun(got, fun(c.want)) {
			t.Errorf("Norm(%s): %v; want %s", c.a, got, c.want)
		}
		if got := ratf.Norm(fun(c.want)); !sameFun(got, fun(c.want)) {
			t.Errorf("Norm(%s): %v", c.want, got)
		}
	}
}

func TestNewOverNought(t *testing.T) {
	for _, nought := range noughtRows() {
		for _, up := range append(noughtRows(), line("1"), line("-2/3 0"), line("0 1"), wound(5, 0, 1)) {
			got, ok := ratf.New(up, nought)
			checkNot(t, calling("New", up, nought), got, ok)
			if got := ratf.Norm(function{Up: up, Down: nought}); !sameFun(got, fun(": 1")) {
				t.Errorf("Norm(%v over %v): %v", up, nought, got)
			}
		}
		if got, ok := ratf.New(nought, line("3 1 2")); !ok || !sameFun(got, fun(": 1")) {
			t.Errorf("New(%v, 3 1 2): %v, %v", nought, got, ok)
		}
	}
}

func TestOfAndLineTable(t *testing.T) {
	for _, c := range []struct{ a, b, want string }{
		{"0", "0", ": 1"},
		{"1", "0", "1 : 1"},
		{"-2/3", "0", "-2/3 : 1"},
		{"0", "1", "0 1 : 1"},
		{"0", "-5", "0 -5 : 1"},
		{"1", "1", "1 1 : 1"},
		{"3/4", "-1/2", "3/4 -1/2 : 1"},
		{"4294967296", "1/4294967296", "4294967296 1/4294967296 : 1"},
	} {
		if got := ratf.Line(fr(c.a), fr(c.b)); !sameFun(got, fun(c.want)) {
			t.Errorf("Line(%s, %s): %v; want %s", c.a, c.b, got, c.want)
		}
		if got := ratf.Of(fr(c.a)); c.b == "0" && !sameFun(got, fun(c.want)) {
			t.Errorf("Of(%s): %v; want %s", c.a, got, c.want)
		}
	}
}

func TestOfAndLineOfAllForms(t *testing.T) {
	one := rats{big.NewRat(1, 1)}
	for _, a := range several() {
		checkFun(t, calling("Of", a), ratf.Of(a), ratio{values(fracs{a}), one})
		for _, b := range several() {
			checkFun(t, calling("Line", a, b), ratf.Line(a, b), ratio{values(fracs{a, b}), one})
		}
	}
}

func TestZeroAndNormOfNoughts(t *testing.T) {
	for _, a := range zeros() {
		if !ratf.Zero(a) {
			t.Errorf("Zero(%v): false", a)
		}
		if got := ratf.Norm(a); !sameFun(got, fun(": 1")) {
			t.Errorf("Norm(%v): %v", a, got)
		}
		for _, b := range []function{fun("1 : 1"), fun("0 1 : 1 1"), fun("-1/2 : 1 2 3"), fun("0 0 1 0 : 0 1 0")} {
			if ratf.Zero(b) || ratf.Same(a, b) || ratf.Same(b, a) {
				t.Errorf("%v and %v", a, b)
			}
		}
		for _, b := range zeros() {
			if !ratf.Same(a, b) {
				t.Fatalf("Same(%v, %v): false", a, b)
			}
		}
	}
}

func TestSameTable(t *testing.T) {
	for _, c := range []struct {
		a, b string
		want bool
	}{
		{"1 : 1", "2 : 2", true},
		{"1 : 1", "1 0 : 1 0 0", true},
		{"1 : 1", "0 1 : 0 1", true},
		{"1 : 1", "1 2 3 : 1 2 3", true},
		{"1 : 0 1", "0 2 : 0 0 2", true},
		{"-1 1 : 1", "-1 0 1 : 1 1", true},
		{"1 : 1 -1", "-1 : -1 1", true},
		{"1/2 : 1/3 1", "3 : 2 6", true},
		{": 1", "1 2 :", true},
		{"1 : 1", "-1 : 1", false},
		{"1 : 1", "2 : 1", false},
		{"1 : 1", ": 1", false},
		{"1 : 1", "1 :", false},
		{"1 :", "1 : 1", false},
		{"1 : 1", "0 1 : 1", false},
		{"1 : 1", "1 : 0 1", false},
		{"0 1 : 1", "1 : 0 1", false},
		{"1 : 1 1", "1 : 1 2", false},
		{"1 : 1 1", "1 1 : 1", false},
		{"1 2 : 3 4", "1 2 : 3 5", false},
		{"1 2 : 3 4", "1 3 : 3 4", false},
		{"1 2 : 3 4", "3 4 : 1 2", false},
		{"1 2 : 3 4", "-1 -2 : 3 4", false},
	} {
		a, b := fun(c.a), fun(c.b)
		if x, y := ratf.Same(a, b), ratf.Same(b, a); x != c.want || y != c.want {
			t.Errorf("Same(%s, %s): %v, and in turn %v", c.a, c.b, x, y)
		}
	}
}

func TestNegTable(t *testing.T) {
	for _, c := range []struct{ a, want string }{
		{": 1", ": 1"},
		{"0 0 : 1 2", ": 1"},
		{"1 2 :", ": 1"},
		{"1 : 1", "-1 : 1"},
		{"-2/3 : 1", "2/3 : 1"},
		{"1 0 -1 : 1", "-1 0 1 : 1"},
		{"1 : 0 1", "-1 : 0 1"},
		{"1 : 1 -1", "1 : -1 1"},
		{"-1 0 1 : 2 2", "1/2 -1/2 : 1"},
	} {
		if got := ratf.Neg(fun(c.a)); !sameFun(got, fun(c.want)) {
			t.Errorf("Neg(%s): %v; want %s", c.a, got, c.want)
		}
	}
}

func TestAddAndSubTable(t *testing.T) {
	for _, c := range []struct{ a, b, sum, gap string }{
		{": 1", ": 1", ": 1", ": 1"},
		{"1 :", "0 : 0", ": 1", ": 1"},
		{": 1", "1 : 0 1", "1 : 0 1", "-1 : 0 1"},
		{"1 : 0 1", ": 1", "1 : 0 1", "1 : 0 1"},
		{"1 : 0 2", "5 : 0", "1/2 : 0 1", "1/2 : 0 1"},
		{"1/2 : 1", "1/3 : 1", "5/6 : 1", "1/6 : 1"},
		{"1 2 : 1", "3 4 : 1", "4 6 : 1", "-2 -2 : 1"},
		{"1 : 0 1", "2 : 0 1", "3 : 0 1", "-1 : 0 1"},
		{"1 : 0 1", "1 : 0 1", "2 : 0 1", ": 1"},
		{"1 : 0 1", "-1 : 0 1", ": 1", "2 : 0 1"},
		{"1 : 0 1", "1 : 1", "1 1 : 0 1", "1 -1 : 0 1"},
		{"1 : 0 1", "0 1 : 1", "1 0 1 : 0 1", "1 0 -1 : 0 1"},
		{"1 : 1 1", "1 : -1 1", "0 2 : -1 0 1", "-2 : -1 0 1"},
		{"1 : 1 1", "0 1 : 1 1", "1 : 1", "1 -1 : 1 1"},
		{"1 : -1 1", "0 1 : -1 1", "1 1 : -1 1", "-1 : 1"},
		{"1 : -1 0 1", "1 : -1 1", "2 1 : -1 0 1", "0 -1 : -1 0 1"},
		{"1 : -1 0 1", "-1/2 : -1 1", "-1/2 : 1 1", "3/2 1/2 : -1 0 1"},
		{"1 : 0 1 1", "1 : 0 -1 1", "2 : -1 0 1", "-2 : 0 -1 0 1"},
		{"1 : 0 1", "1 : 0 0 1", "1 1 : 0 0 1", "-1 1 : 0 0 1"},
		{"1 : 1 2 1", "0 1 : 1 2 1", "1 : 1 1", "1 -1 : 1 2 1"},
		{"1 : 2 3", "1 : 4 6", "1/2 : 2/3 1", "1/6 : 2/3 1"},
		{"0 1 : 0 0 1", "1 1 : -1 0 1", "-1 2 : 0 -1 1", "-1 : 0 -1 1"},
	} {
		if got := ratf.Add(fun(c.a), fun(c.b)); !sameFun(got, fun(c.sum)) {
			t.Errorf("Add(%s, %s): %v; want %s", c.a, c.b, got, c.sum)
		}
		if got := ratf.Sub(fun(c.a), fun(c.b)); !sameFun(got, fun(c.gap)) {
			t.Errorf("Sub(%s, %s): %v; want %s", c.a, c.b, got, c.gap)
		}
	}
}

func TestMulTable(t *testing.T) {
	for _, c := range []struct{ a, b, want string }{
		{": 1", ": 1", ": 1"},
		{": 1", "1 : 0 1", ": 1"},
		{"1 2 :", "1 : 0 1", ": 1"},
		{"0 0 : 1 1", "1 1 : 0", ": 1"},
		{"2 : 1", "3 : 1", "6 : 1"},
		{"1 1 : 1", "1 -1 : 1", "1 0 -1 : 1"},
		{"1 : 0 1", "1 : 0 1", "1 : 0 0 1"},
		{"1 : 0 1", "0 1 : 1", "1 : 1"},
		{"2 : 0 1", "0 3 : 1", "6 : 1"},
		{"0 1 : 1 1", "1 1 : 0 1", "1 : 1"},
		{"0 2 : 1 1", "1 1 : 0 4", "1/2 : 1"},
		{"0 1 : 1 1", "-1 0 1 : 1", "0 -1 1 : 1"},
		{"1 1 : -1 1", "-1 1 : 2 1", "1 1 : 2 1"},
		{"1 1 : -1 1", "2 1 : 1 1", "2 1 : -1 1"},
		{"1 : 1 1", "1 : 1 2", "1/2 : 1/2 3/2 1"},
		{"1 2 1 : 2 1", "4 4 1 : 1 1", "2 3 1 : 1"},
		{"1 2 : 3 4", "3 4 : 1 2", "1 : 1"},
	} {
		for range 2 {
			if got := ratf.Mul(fun(c.a), fun(c.b)); !sameFun(got, fun(c.want)) {
				t.Errorf("Mul(%s, %s): %v; want %s", c.a, c.b, got, c.want)
			}
			c.a, c.b = c.b, c.a
		}
	}
}

func TestQuoTable(t *testing.T) {
	for _, c := range []struct{ a, b, want string }{
		{": 1", "1 : 1", ": 1"},
		{": 1", "0 1 : 1 2", ": 1"},
		{"1 2 :", "0 1 : 1 2", ": 1"},
		{"6 : 1", "4 : 1", "3/2 : 1"},
		{"1 : 1", "0 1 : 1", "1 : 0 1"},
		{"1 : 1", "1 : 0 1", "0 1 : 1"},
		{"0 1 : 1", "0 2 : 1", "1/2 : 1"},
		{"1 : 1", "3 2 : 5 7", "5/2 7/2 : 3/2 1"},
		{"0 1 : 1 1", "0 1 : 1 1", "1 : 1"},
		{"0 1 : 1 1", "0 1 : 2 1", "2 1 : 1 1"},
		{"1 : 1 1", "1 : -1 0 1", "-1 1 : 1"},
		{"1 2 1 : 2 1", "1 1 : 4 4 1", "2 3 1 : 1"},
		{"0 1 : 1", "-1 0 1 0 : 1 1", "0 1 : -1 1"},
	} {
		if got, ok := ratf.Quo(fun(c.a), fun(c.b)); !ok || !sameFun(got, fun(c.want)) {
			t.Errorf("Quo(%s, %s): %v, %v; want %s", c.a, c.b, got, ok, c.want)
		}
	}
	for _, zero := range zeros() {
		for _, a := range []function{{}, fun("1 : 1"), fun("0 1 : 1 1"), zero} {
			got, ok := ratf.Quo(a, zero)
			checkNot(t, calling("Quo", a, zero), got, ok)
		}
		if got, ok := ratf.Quo(zero, fun("1 1 : 0 1")); !ok || !sameFun(got, fun(": 1")) {
			t.Errorf("Quo(%v, 1 + x over x): %v, %v", zero, got, ok)
		}
	}
}

func TestPowTable(t *testing.T) {
	for _, c := range []struct {
		a    string
		e    int
		want string
	}{
		{"1 : 1", 0, "1 : 1"},
		{"0 1 : 1 1", 0, "1 : 1"},
		{": 1", 0, "1 : 1"},
		{": 1", 1, ": 1"},
		{": 1 1", 8, ": 1"},
		{"1 1 :", 3, ": 1"},
		{"1 1 :", 0, "1 : 1"},
		{"2/3 : 1", 1, "2/3 : 1"},
		{"2/3 : 1", 2, "4/9 : 1"},
		{"2/3 : 1", -2, "9/4 : 1"},
		{"-2 : 1", 3, "-8 : 1"},
		{"-2 : 1", 8, "256 : 1"},
		{"-2 : 1", -8, "1/256 : 1"},
		{"0 1 : 1", 8, "0 0 0 0 0 0 0 0 1 : 1"},
		{"0 2 : 1", -3, "1/8 : 0 0 0 1"},
		{"1 : 0 1", -2, "0 0 1 : 1"},
		{"1 : 0 1", 2, "1 : 0 0 1"},
		{"1 1 : 1", 4, "1 4 6 4 1 : 1"},
		{"0 1 : 1 1", 2, "0 0 1 : 1 2 1"},
		{"0 1 : 1 1", -1, "1 1 : 0 1"},
		{"0 1 : 1 1", -2, "1 2 1 : 0 0 1"},
		{"-1 0 1 : -1 1", 3, "1 3 3 1 : 1"},
		{"-1 0 1 : -2 2", -2, "4 : 1 2 1"},
	} {
		if got, ok := ratf.Pow(fun(c.a), c.e); !ok || !sameFun(got, fun(c.want)) {
			t.Errorf("Pow(%s, %d): %v, %v; want %s", c.a, c.e, got, ok, c.want)
		}
	}
}

func TestPowWhereThereIsNone(t *testing.T) {
	for _, a := range []function{{}, fun(": 1"), fun("1 : 1"), fun("-1 : 1"), fun("0 1 : 1 1"), fun("1 1 :")} {
		for _, e := range []int{-api.MaxExp - 1, api.MaxExp + 1, -1000, 1000, math.MinInt, math.MaxInt, -1 << 32, 1 << 32} {
			got, ok := ratf.Pow(a, e)
			checkNot(t, calling("Pow", a, e), got, ok)
		}
	}
	for _, zero := range zeros() {
		for e := -api.MaxExp; e < 0; e++ {
			got, ok := ratf.Pow(zero, e)
			checkNot(t, calling("Pow", zero, e), got, ok)
		}
		if got, ok := ratf.Pow(zero, 0); !ok || !sameFun(got, fun("1 : 1")) {
			t.Errorf("Pow(%v, 0): %v, %v", zero, got, ok)
		}
		for e := 1; e <= api.MaxExp; e++ {
			if got, ok := ratf.Pow(zero, e); !ok || !sameFun(got, fun(": 1")) {
				t.Errorf("Pow(%v, %d): %v, %v", zero, e, got, ok)
			}
		}
	}
}

func TestEvalTable(t *testing.T) {
	for _, c := range []struct{ a, x, want string }{
		{": 1", "0", "0"},
		{": 1", "7", "0"},
		{": 0 1", "0", "0"},
		{"1 2 :", "0", "0"},
		{"1 2 :", "7", "0"},
		{"3 : 1", "0", "3"},
		{"3 : 2", "-7", "3/2"},
		{"0 1 : 1", "-2/3", "-2/3"},
		{"1 : 0 1", "2", "1/2"},
		{"1 : 0 1", "-2/3", "-3/2"},
		{"5 1 : 3 1", "0", "5/3"},
		{"0 1 : 0 1", "0", "1"},
		{"0 3 : 0 2", "0", "3/2"},
		{"0 0 1 : 0 1", "0", "0"},
		{"0 0 1 : 0 0 2", "0", "1/2"},
		{"-1 0 1 : -1 1", "1", "2"},
		{"-1 0 1 : -1 1", "-1", "0"},
		{"-1 0 1 : -1 1", "3", "4"},
		{"-1 1 : -1 0 1", "1", "1/2"},
		{"-6 11 -6 1 : 2 -3 1", "2", "-1"},
		{"0 0 1 : 0 1 1", "0", "0"},
	} {
		if got, ok := ratf.Eval(fun(c.a), fr(c.x)); !ok || !same(got, fr(c.want)) {
			t.Errorf("Eval(%s, %s): %v, %v; want %s", c.a, c.x, got, ok, c.want)
		}
	}
	for _, c := range []struct{ a, x string }{
		{"1 : 0 1", "0"},
		{"1 : 0 0 1", "0"},
		{"0 1 : 0 0 1", "0"},
		{"1 1 : -1 1", "1"},
		{"-1 1 : -1 0 1", "-1"},
		{"-1 1 : 1 -2 1", "1"},
		{"1 : 2 3", "-2/3"},
		{"1 0 1 : -6 11 -6 1", "3"},
	} {
		if got, ok := ratf.Eval(fun(c.a), fr(c.x)); ok || !same(got, frac.Of(0)) {
			t.Errorf("Eval(%s, %s): %v, %v; want 0, false", c.a, c.x, got, ok)
		}
	}
}

func TestDiffTable(t *testing.T) {
	for _, c := range []struct{ a, want string }{
		{": 1", ": 1"},
		{"0 : 1 2", ": 1"},
		{"1 2 :", ": 1"},
		{"7 : 1", ": 1"},
		{"7 : -1/2 0", ": 1"},
		{"0 3 : 0 2", ": 1"},
		{"0 1 : 1", "1 : 1"},
		{"5 0 0 2 : 1", "0 0 6 : 1"},
		{"5 0 0 2 : 2", "0 0 3 : 1"},
		{"1 : 0 1", "-1 : 0 0 1"},
		{"1 : 0 0 1", "-2 : 0 0 0 1"},
		{"1 : 0 0 0 0 0 2", "-5/2 : 0 0 0 0 0 0 1"},
		{"1 : 1 1", "-1 : 1 2 1"},
		{"1 : 1 2 1", "-2 : 1 3 3 1"},
		{"0 1 : 1 1", "1 : 1 2 1"},
		{"-1 1 : -1 0 1", "-1 : 1 2 1"},
		{"-1 0 1 : -1 1", "1 : 1"},
		{"1 : 1 0 1", "0 -2 : 1 0 2 0 1"},
		{"0 1 : 1 2 1", "1 -1 : 1 3 3 1"},
		{"1 0 1 : 0 1", "-1 0 1 : 0 0 1"},
		{"1 : -1 0 1", "0 -2 : 1 0 -2 0 1"},
		{"1 : 0 0 1 1", "-2 -3 : 0 0 0 1 2 1"},
		{"1 : 1 0 2 0 1", "0 -4 : 1 0 3 0 3 0 1"},
	} {
		if got := ratf.Diff(fun(c.a)); !sameFun(got, fun(c.want)) {
			t.Errorf("Diff(%s): %v; want %s", c.a, got, c.want)
		}
	}
}

func TestEachOne(t *testing.T) {
	for _, a := range functions() {
		for _, b := range forms(a) {
			checkOne(t, b)
		}
	}
	for _, a := range zeros() {
		checkOne(t, a)
	}
}

func TestEachAtEachPoint(t *testing.T) {
	for _, a := range functions() {
		want := meant(a)
		for _, b := range forms(a) {
			for _, x := range points() {
				checkEval(t, b, want, x)
			}
		}
	}
}

func TestPowersOfEach(t *testing.T) {
	for _, a := range functions() {
		want := meant(a)
		for e := -api.MaxExp - 2; e <= api.MaxExp+2; e++ {
			checkPow(t, a, want, e)
		}
		for _, b := range forms(a) {
			for _, e := range []int{-2, -1, 0, 1, 3} {
				checkPow(t, b, want, e)
			}
		}
	}
}

func TestAllPairs(t *testing.T) {
	for _, a := range functions() {
		for _, b := range functions() {
			checkPair(t, a, b)
		}
	}
}

// Whatever the form, the answers are those of what it means.
func TestFormsOfPairs(t *testing.T) {
	for _, a := range []function{fun(": 1"), fun("1 : 1 1"), fun("-1 0 1 : 0 2")} {
		for _, b := range []function{fun(": 1"), fun("-1/2 : 1"), fun("1 1 : -1 1"), fun("3 : -1 0 1")} {
			for _, x := range forms(a) {
				for _, y := range forms(b) {
					checkPair(t, x, y)
				}
			}
		}
	}
}

// What Ups and Downs share, of each kind alone and of several at once, is cancelled.
func TestPairsThatShareFactors(t *testing.T) {
	factors := []fracs{line("1"), line("0 1"), line("1 1"), line("2 -3 1")}
	for _, f := range factors {
		for _, g := range factors {
			for _, h := range factors {
				a := function{Up: poly.Mul(f, line("3 1")), Down: poly.Mul(g, line("5 2"))}
				b := function{Up: poly.Mul(g, line("7 0 1")), Down: poly.Mul(f, h)}
				c := function{Up: poly.Mul(h, line("-1 4")), Down: poly.Mul(poly.Mul(g, g), f)}
				for _, p := range [][2]function{{a, b}, {b, a}, {a, c}, {c, b}, {b, b}} {
					checkPair(t, p[0], p[1])
				}
				checkOne(t, c)
			}
		}
	}
}

func TestLongerPairs(t *testing.T) {
	for i, n := range []int{0, 1, 3, 6} {
		for k, m := range []int{0, 2, 5} {
			a := function{Up: rough(n, 1, i%2 == 0), Down: rough(m, 9, k%2 == 0)}
			b := function{Up: rough(m, 20, false), Down: rough(n, 33, true)}
			checkPair(t, a, b)
			checkPair(t, a, function{Up: b.Up, Down: a.Down})
			checkPair(t, a, function{Up: a.Down, Down: b.Up})
			checkPair(t, function{Up: poly.Mul(a.Up, b.Up), Down: poly.Mul(a.Down, b.Up)}, b)
			checkOne(t, a)
			checkOne(t, b)
		}
	}
	for _, n := range []int{1, 2, 30, 80} {
		less := poly.Sub(power(n), line("1"))
		checkPair(t, function{Up: less, Down: line("-1 1")}, function{Up: line("-1 1"), Down: power(n)})
		checkOne(t, function{Up: line("1"), Down: power(n)})
		checkOne(t, function{Up: less, Down: line("-2 2")})
	}
}

// Where common divisors were sought in what sums and products come to, this would take very long.
func TestSumsAndProductsOfGreatDegree(t *testing.T) {
	const n = 20
	up, down := rough(n, 3, true), rough(n, 4, true)
	other := rough(n-1, 5, true)
	a, _ := ratf.New(up, down)
	b, _ := ratf.New(down, other)
	total := ratf.Add(a, b)
	if poly.Degree(total.Up) != 2*n || poly.Degree(total.Down) != 2*n-1 || !sameFun(ratf.Sub(total, b), a) {
		t.Errorf("a sum of degree %d over %d", poly.Degree(total.Up), poly.Degree(total.Down))
	}
	want, _ := ratf.New(up, other)
	if got := ratf.Mul(a, b); !sameFun(got, want) || poly.Degree(want.Up) != n {
		t.Error("a product")
	}
}

func TestValuesOfSumsAndProducts(t *testing.T) {
	for _, a := range functions() {
		for _, b := range functions() {
			quo, sure := ratf.Quo(a, b)
			sum, gap, times := ratf.Add(a, b), ratf.Sub(a, b), ratf.Mul(a, b)
			for _, x := range points()[:7] {
				v, ok := ratf.Eval(a, x)
				w, too := ratf.Eval(b, x)
				if !ok || !too {
					continue
				}
				for _, c := range []struct {
					f    function
					want fraction
				}{{sum, frac.Add(v, w)}, {gap, frac.Sub(v, w)}, {times, frac.Mul(v, w)}} {
					if got, ok := ratf.Eval(c.f, x); !ok || !same(got, c.want) {
						t.Fatalf("%v and %v at %v: %v, %v; want %v", a, b, x, got, ok, c.want)
					}
				}
				want, there := frac.Quo(v, w)
				if got, ok := ratf.Eval(quo, x); there && (!sure || !ok || !same(got, want)) {
					t.Fatalf("%v over %v at %v: %v, %v; want %v", a, b, x, got, ok, want)
				}
			}
		}
	}
}

func TestDerivativesOfSumsAndProducts(t *testing.T) {
	for _, a := range functions() {
		for _, b := range functions() {
			x, y := ratf.Diff(a), ratf.Diff(b)
			if got, want := ratf.Diff(ratf.Add(a, b)), ratf.Add(x, y); !sameFun(got, want) {
				t.Fatalf("sum of %v and %v: %v; want %v", a, b, got, want)
			}
			if got, want := ratf.Diff(ratf.Mul(a, b)), ratf.Add(ratf.Mul(x, b), ratf.Mul(a, y)); !sameFun(got, want) {
				t.Fatalf("product of %v and %v: %v; want %v", a, b, got, want)
			}
		}
	}
}

// answers is what calls tell: what is written out, and the functions and values that are answered.
type answers struct {
	told strings.Builder
	funs []function
	vals fracs
}

func (k *answers) fun(a function) {
	k.funs = append(k.funs, a)
	fmt.Fprintln(&k.told, wordsOf(a.Up), "over", wordsOf(a.Down))
}

func (k *answers) sure(a function, ok bool) {
	k.fun(a)
	fmt.Fprintln(&k.told, ok)
}

func (k *answers) val(a fraction, ok bool) {
	k.vals = append(k.vals, a)
	fmt.Fprintln(&k.told, wordsOf(fracs{a}), ok)
}

// rows are all lists of fractions that were answered, and the values as one more.
func (k *answers) rows() []fracs {
	l := []fracs{k.vals}
	for _, a := range k.funs {
		l = append(l, a.Up, a.Down)
	}
	return l
}

// lists are all lists of words that were answered, those in spare room too.
func (k *answers) lists() []list {
	var l []list
	for _, r := range k.rows() {
		for _, c := range r[:cap(r)] {
			l = append(l, c.Num.Abs, c.Den)
		}
	}
	return l
}

// wordsOf writes a row to the word; nil lists are empty ones.
func wordsOf(a fracs) string {
	var s strings.Builder
	for _, c := range a {
		fmt.Fprint(&s, c.Num.Neg, c.Num.Abs, c.Den, " ")
	}
	return s.String()
}

// A handful is what calls are made with.
type handful struct {
	a, b function
	x    fraction
}

func handfuls() []handful {
	return []handful{
		{},
		{fun(":"), fun("0 : 0"), fr("0")},
		{fun("1 :"), fun(": 1 1"), fr("-1")},
		{function{Up: naughts(), Down: line("2")}, function{Up: line("2"), Down: naughts()}, over(plus(7))},
		{fun("1 : 1"), fun("-1/2 : 3"), fr("1")},
		{fun("0 1 : 1"), fun("1 : 0 1"), fr("0")},
		{fun("1 1 : -1 1"), fun("-1 0 1 : 1 2 1"), fr("1")},
		{fun("1 : -1 0 1"), fun("-1 1 0 : 1 0"), over(plus(2), 4)},
		{fun("0 1 2 : 3 4"), fun("0 1 2 : 3 4"), over(minus(6, 0), 4, 0)},
		{fun("-6 11 -6 1 : 2 -3 1"), fun("1 : 2 -3 1 0"), fr("2")},
		{bentFun(fun("-6 11 -6 1 0 : 2 -3 1")), bentFun(fun("1 : -1 1 0")), over(plus(2, 0), 2)},
		{function{Up: wound(3, 0, 1), Down: wound(4, 5, 2)}, function{Up: wound(2, 12, 3), Down: wound(3, 1, 4)}, over(minus(0), 6, 0)},
		{function{Up: rough(4, 2, true), Down: rough(3, 7, false)}, function{Up: rough(2, 8, false), Down: rough(4, 1, true)}, fr("-2/3")},
	}
}

// calls are all calls, made with these.
func (h handful) calls() *answers {
	k := new(answers)
	k.fun(ratf.Of(h.x))
	for _, a := range []function{h.a, h.b} {
		k.sure(ratf.New(a.Up, a.Down))
		k.sure(ratf.New(a.Down, a.Down))
		for _, c := range slices.Concat(a.Up, a.Down) {
			k.fun(ratf.Line(h.x, c))
			k.fun(ratf.Line(c, c))
		}
		k.fun(ratf.Norm(a))
		k.fun(ratf.Neg(a))
		k.fun(ratf.Diff(a))
		k.val(ratf.Eval(a, h.x))
		fmt.Fprintln(&k.told, ratf.Zero(a))
		for _, e := range []int{-9, -2, -1, 0, 1, 2} {
			k.sure(ratf.Pow(a, e))
		}
		for _, b := range []function{h.a, h.b, {Up: h.a.Up, Down: h.b.Down}, {Up: a.Up, Down: a.Up}} {
			fmt.Fprintln(&k.told, ratf.Same(a, b))
			k.fun(ratf.Add(a, b))
			k.fun(ratf.Sub(a, b))
			k.fun(ratf.Mul(a, b))
			k.sure(ratf.Quo(a, b))
		}
	}
	return k
}

// lendList hands out a with spare room behind it, whose words show who wrote there, or who read.
func lendList(a list, fill uint32) list { return behind(a, fill, fill, fill)[:len(a)] }

func lend(a fraction, fill uint32) fraction {
	return fraction{Num: number{Neg: a.Num.Neg, Abs: lendList(a.Num.Abs, fill)}, Den: lendList(a.Den, fill)}
}

func lendLine(a fracs, fill uint32) fracs {
	var l fracs
	for _, c := range append(slices.Clone(a), over(plus(fill), fill), over(minus(fill, 1), 1), over(plus(3), 1), fraction{}) {
		l = append(l, lend(c, fill))
	}
	return l[:len(a)]
}

func lendFun(a function, fill uint32) function {
	return function{Up: lendLine(a.Up, fill), Down: lendLine(a.Down, fill)}
}

func (h handful) lent(fill uint32) handful {
	return handful{lendFun(h.a, fill), lendFun(h.b, fill), lend(h.x, fill)}
}

func room(a list) list { return a[:cap(a)] }

// rooms writes rows with all that lies in their spare room, and in that of the fractions.
func rooms(l ...fracs) string {
	var s strings.Builder
	for _, r := range l {
		fmt.Fprint(&s, len(r), ":")
		for _, c := range r[:cap(r)] {
			fmt.Fprint(&s, c.Num.Neg, len(c.Num.Abs), room(c.Num.Abs), len(c.Den), room(c.Den), " ")
		}
	}
	return s.String()
}

func (h handful) rows() []fracs { return []fracs{h.a.Up, h.a.Down, h.b.Up, h.b.Down, {h.x}} }

func (h handful) rooms() string { return rooms(h.rows()...) }

func (k *answers) rooms() string { return rooms(k.rows()...) }

// owners tells of each word's place in memory whose it is: no place may have two.
type owners map[*uint32]int

// claim asks that no list shares a word with another one, spare room too.
func (o owners) claim(t *testing.T, what string, lists []list, first int) {
	t.Helper()
	for i, a := range lists {
		for n := range room(a) {
			at := &room(a)[n]
			if whose, taken := o[at]; taken && whose != first+i {
				t.Fatalf("%s: list %d shares memory with list %d", what, first+i, whose)
			}
			o[at] = first + i
		}
	}
}

// spoil writes on all of a row, its spare room too, but not on what its fractions hold.
func spoil(a fracs) {
	for i := range a[:cap(a)] {
		a[:cap(a)][i] = over(minus(4711), 815)
	}
}

func TestWhatIsHandedInIsLeft(t *testing.T) {
	for i, h := range handfuls() {
		want := h.calls().told.String()
		for _, fill := range []uint32{0, 1, greatest} {
			x := h.lent(fill)
			before := x.rooms()
			// The same answers whatever lies behind the lengths, so that isn't read.
			if got := x.calls().told.String(); got != want {
				t.Fatalf("%d with %d behind: %s; want %s", i, fill, got, want)
			}
			if after := x.rooms(); after != before {
				t.Fatalf("%d with %d behind: made of it %s", i, fill, after)
			}
		}
	}
}

// No list of words of an answer is one of an argument, or of another answer, or stands in the answer twice.
func TestAnswersListsAreNewMemory(t *testing.T) {
	for i, h := range handfuls() {
		x := h.lent(5)
		given := (&answers{vals: slices.Concat(x.rows()...)}).lists()
		lists := slices.Concat(given, x.calls().lists(), x.calls().lists())
		owners{}.claim(t, fmt.Sprint(i), lists, 0)
		before, want := x.rooms(), x.calls().told.String()
		for _, a := range lists[len(given):] {
			for n := range room(a) {
				room(a)[n] = ^room(a)[n]
			}
		}
		if x.rooms() != before {
			t.Fatalf("%d: an answer shares memory with an argument", i)
		}
		if got := x.calls().told.String(); got != want {
			t.Fatalf("%d: %s, then %s", i, want, got)
		}
	}
}

// So it is with the rows themselves, and with what lies behind them: Up and Down share none.
func TestAnswersRowsAreNewMemory(t *testing.T) {
	for i, h := range handfuls() {
		x := h.lent(5)
		first, second := x.calls(), x.calls()
		before, rest := x.rooms(), second.rooms()
		mine := map[*fraction]int{}
		for k, r := range first.rows()[1:] {
			for n := range r[:cap(r)] {
				at := &r[:cap(r)][n]
				if whose, taken := mine[at]; taken && whose != k {
					t.Fatalf("%d: row %d shares memory with row %d", i, k, whose)
				}
				mine[at] = k
			}
		}
		for _, r := range first.rows() {
			spoil(r)
		}
		if x.rooms() != before {
			t.Fatalf("%d: a row is an argument's", i)
		}
		if second.rooms() != rest {
			t.Fatalf("%d: a row is one of the same call's", i)
		}
	}
}

// What was handed in is written on behind the call: what was answered must not move.
func TestWhatIsHandedInIsNotKept(t *testing.T) {
	for i, h := range handfuls() {
		x := h.lent(5)
		k := x.calls()
		before := k.rooms()
		for _, r := range x.rows() {
			for _, c := range r[:cap(r)] {
				for _, w := range []list{room(c.Num.Abs), room(c.Den)} {
					for n := range w {
						w[n] = ^w[n]
					}
				}
			}
			spoil(r)
		}
		if k.rooms() != before {
			t.Fatalf("%d: an answer moves with what was handed in", i)
		}
	}
}

// One function may be both, one row Up and Down, and a piece of one the other.
func TestOneAtAllPlaces(t *testing.T) {
	for n := range 6 {
		for from := range 8 {
			r := lendLine(wound(n, 3*from, 2), 7)
			for _, a := range []function{{Up: r, Down: r}, {Up: r, Down: r[n/2:]}, {Up: r[n/3:], Down: r}, {Up: r[:n/2], Down: r[n/2:]}} {
				before := rooms(r)
				checkOne(t, a)
				checkPair(t, a, a)
				checkPair(t, a, function{Up: a.Down, Down: a.Up})
				for _, x := range r {
					checkEval(t, a, meant(a), x)
				}
				lists := handful{a, a, fr("2")}.calls().lists()
				owners{}.claim(t, fmt.Sprint(a), append((&answers{vals: r}).lists(), lists...), 0)
				if rooms(r) != before {
					t.Fatalf("made of %v: %v", before, rooms(r))
				}
			}
		}
	}
}

// What is answered is right where what is handed in is not.
func TestAnswersAreRight(t *testing.T) {
	for i, h := range handfuls() {
		k := h.calls()
		for _, a := range k.funs {
			if n := len(a.Up); n > 0 && frac.Sign(a.Up[n-1]) == 0 {
				t.Fatalf("%d: the Up of %v ends with 0", i, a)
			}
			if n := len(a.Down); n == 0 || !same(a.Down[n-1], frac.Of(1)) {
				t.Fatalf("%d: the Down of %v doesn't end with 1", i, a)
			}
			if g := common(values(a.Up), values(a.Down)); len(g) != 1 {
				t.Fatalf("%d: %v can be cancelled by %v", i, a, g)
			}
		}
		for _, c := range slices.Concat(k.rows()...) {
			if !same(c, of(value(c))) || !frac.Right(c) {
				t.Fatalf("%d: %v isn't right", i, c)
			}
		}
	}
}

// Noughts at the end of rows and lists, however many, cost no more than to go over them.
func TestNoughtsAtTheEndAreCheap(t *testing.T) {
	end := repeat(0, 100000)
	for i, h := range handfuls() {
		long := h
		long.a.Up = append(slices.Clone(h.a.Up), slices.Repeat(naughts()[:4], 300)...)
		long.a.Down = append(slices.Clone(h.a.Down), over(plus(end...), 1), over(plus(1), end...))
		long.x.Den = behind(long.x.Den, end...)
		for k, want := range []function{ratf.Norm(h.a), ratf.Diff(h.a), ratf.Add(h.a, h.b), ratf.Mul(h.b, h.a)} {
			got := []func() function{func() function { return ratf.Norm(long.a) }, func() function { return ratf.Diff(long.a) }, func() function { return ratf.Add(long.a, h.b) }, func() function { return ratf.Mul(h.b, long.a) }}[k]()
			if !sameFun(got, want) {
				t.Fatalf("%d, call %d: %v; want %v", i, k, got, want)
			}
		}
		want, sure := ratf.Eval(h.a, h.x)
		if got, ok := ratf.Eval(long.a, long.x); ok != sure || !same(got, want) {
			t.Fatalf("%d: %v, %v; want %v, %v", i, got, ok, want, sure)
		}
	}
}

func TestExamples(t *testing.T) {
	if got, ok := ratf.Quo(ratf.Line(fr("0"), fr("1")), ratf.Line(fr("0"), fr("2"))); !ok || !sameFun(got, ratf.Of(fr("1/2"))) || !sameFun(got, fun("1/2 : 1")) {
		t.Error(got, ok)
	}
	if got, ok := ratf.Eval(fun("1 : 0 1"), fr("0")); ok || !same(got, frac.Of(0)) {
		t.Error(got, ok)
	}
	if got := ratf.Diff(fun("1 : 0 1")); !sameFun(got, fun("-1 : 0 0 1")) {
		t.Error(got)
	}
}
