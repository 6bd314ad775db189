package gauge_test

import (
	"fmt"
	"math"
	"math/big"
	"slices"
	"strings"
	"testing"

	"retrospect/frac"
	"retrospect/gauge"
	"retrospect/whole"
)

const (
	greatest = 0xffffffff
	// As the document names it.
	maxBits = 4096
)

type (
	list     = []uint32
	number   = whole.Whole
	fraction = frac.Frac
	fracs    = []frac.Frac
	count    = gauge.Count
)

func plus(w ...uint32) number { return number{Abs: w} }

func minus(w ...uint32) number { return number{Neg: true, Abs: w} }

// over writes a fraction as it stands, right or not.
func over(num number, den ...uint32) fraction { return fraction{Num: num, Den: den} }

func repeat(w uint32, n int) list { return slices.Repeat(list{w}, n) }

func behind(a list, w ...uint32) list { return append(slices.Clone(a), w...) }

func natural(a list) *big.Int {
	n := new(big.Int)
	for i := len(a) - 1; i >= 0; i-- {
		n.Or(n.Lsh(n, 32), big.NewInt(int64(a[i])))
	}
	return n
}

func words(n *big.Int) list {
	var a list
	for n = new(big.Int).Set(n); n.Sign() > 0; n.Rsh(n, 32) {
		a = append(a, uint32(n.Uint64()))
	}
	return a
}

// bits are those of both numbers, as they stand.
func bits(a fraction) int { return natural(a.Num.Abs).BitLen() + natural(a.Den).BitLen() }

// fr is told by a whole number, or by two with a / between.
func fr(s string) fraction {
	r, ok := new(big.Rat).SetString(s)
	if !ok {
		panic(s + " is no fraction")
	}
	return fraction{Num: number{Neg: r.Sign() < 0, Abs: words(new(big.Int).Abs(r.Num()))}, Den: words(r.Denom())}
}

// line is a row of right fractions, told with spaces between.
func line(s string) fracs {
	var a fracs
	for _, c := range strings.Fields(s) {
		a = append(a, fr(c))
	}
	return a
}

// top is the least number of n bits.
func top(n int) list { return words(new(big.Int).Lsh(big.NewInt(1), uint(n-1))) }

// full is the greatest number of n bits.
func full(n int) list {
	one := big.NewInt(1)
	return words(new(big.Int).Sub(new(big.Int).Lsh(one, uint(n)), one))
}

// long is a right fraction of so many bits, 2 or more; den of them, at most n - 1, are those of its Den.
func long(n, den int) fraction { return over(plus(full(n-den)...), top(den)...) }

// What fails on one of the lists without a pattern must fail again, so they are always the same ones.
func noise(n int) list {
	x := uint32(2463534242) + uint32(n)
	a := make(list, n)
	for i := range a {
		x ^= x << 13
		x ^= x >> 17
		x ^= x << 5
		a[i] = x
	}
	return a
}

// wrong are fractions that aren't right, in all ways.
func wrong() fracs {
	return fracs{
		{}, over(plus(7)), over(minus(7), 0), over(minus(1, 2, 3), repeat(0, 100)...), over(plus(0, 0, 0), 0, 0), over(plus(full(40)...)), over(plus(noise(5)...), 0), {Num: plus(), Den: list{}},
		over(plus(2), 4), over(minus(12), 18), over(plus(4), 6), over(minus(14), 0, 7), over(plus(greatest, greatest), greatest), over(plus(full(7)...), full(7)...), over(plus(noise(3)...), noise(3)...), over(plus(), 3), over(plus(), noise(2)...),
		over(minus(6, 0), 4, 0), over(plus(1, 1), 1, 0), over(plus(7, 0), 18, 0, 0), over(plus(1, 0), 1), over(plus(0, 1, 0, 0, 0), 1), over(plus(1), 0, 1, 0), over(plus(greatest, 0), greatest, 0),
		over(minus(), 1), over(minus(), 3), over(minus(0), 6, 0), over(minus(0, 0), 0, 1), over(minus()), over(minus(), noise(3)...),
	}
}

// right are right fractions, 0 and such as are at an end of a word among them.
func right() fracs {
	l := line("0 1 -1 2 -2 3 4 7 8 1/2 -1/2 3/2 -3/4 -5/4 2/3 9/4 13/8 4294967295 4294967296 -4294967297 1/4294967295 -1/4294967296 4294967295/4294967296 18446744073709551615 -1/18446744073709551616")
	for _, n := range []int{2, 3, 31, 32, 33, 34, 63, 64, 65, 66, 100, 1000, maxBits - 1, maxBits, maxBits + 1, maxBits + 2, 2 * maxBits, 10000} {
		l = append(l, long(n, 1), long(n, n-1), frac.Neg(long(n, n/2)))
	}
	return l
}

func all() fracs { return append(right(), wrong()...) }

// ends are numbers at which something ends, and their neighbours.
func ends() []int {
	l := []int{math.MinInt, math.MinInt + 1, math.MinInt + maxBits, math.MinInt32 - 1, math.MinInt32, -1 << 32, -1<<32 + 3, -maxBits - 1, -maxBits, math.MaxInt - 1, math.MaxInt, math.MaxInt32, math.MaxInt32 + 1, 1 << 32, 1<<32 + 3, 1 << 40, 1000000, 2 * maxBits, maxBits - 2, maxBits - 1, maxBits, maxBits + 1, maxBits + 2, 255, 256, 257, 1000}
	for n := -10; n <= 130; n++ {
		l = append(l, n)
	}
	return l
}

func cut(limit int) int { return min(max(limit, 0), maxBits) }

// A model keeps all that was shown, and tells from that.
type model struct {
	limit int
	shown []int
}

func (m *model) take(a fraction) bool {
	m.shown = append(m.shown, bits(a))
	return bits(a) <= m.limit
}

func (m *model) row(l fracs) (int, bool) {
	for i, a := range l {
		if !m.take(a) {
			return i, false
		}
	}
	return len(l), true
}

func (m *model) tells() count {
	peak := 0
	for _, n := range m.shown {
		peak = max(peak, n)
	}
	return count{Seen: len(m.shown), Peak: peak}
}

func (m *model) over() bool {
	return slices.ContainsFunc(m.shown, func(n int) bool { return n > m.limit })
}

// A pair is a gauge and its model, to which the same is shown.
type pair struct {
	g *gauge.Gauge
	m *model
}

func newPair(limit int) pair { return pair{gauge.New(limit), &model{limit: cut(limit)}} }

// check asks all that tells and shows nothing, twice.
func (p pair) check(t *testing.T) {
	t.Helper()
	for range 2 {
		checkState(t, p.g, p.m.limit, p.m.tells(), p.m.over())
	}
}

func (p pair) take(t *testing.T, a fraction) {
	t.Helper()
	if got, want := p.g.Take(a), p.m.take(a); got != want {
		t.Fatalf("limit %d: Take(%v) of %d bits: %v", p.m.limit, a, bits(a), got)
	}
	p.check(t)
}

func (p pair) row(t *testing.T, l ...fraction) {
	t.Helper()
	at, ok := p.g.Row(l...)
	if want, through := p.m.row(l); at != want || ok != through {
		t.Fatalf("limit %d: Row(%v): %d, %v; want %d, %v", p.m.limit, l, at, ok, want, through)
	}
	p.check(t)
}

func checkState(t *testing.T, g *gauge.Gauge, limit int, tells count, over bool) {
	t.Helper()
	if g.Limit() != limit || g.Tells() != tells || g.Over() != over {
		t.Fatalf("limit %d, %v, over %v; want %d, %v, %v", g.Limit(), g.Tells(), g.Over(), limit, tells, over)
	}
}

func TestNewTable(t *testing.T) {
	for _, c := range []struct{ limit, want int }{
		{math.MinInt, 0},
		{math.MinInt + 1, 0},
		{-4096, 0},
		{-2, 0},
		{-1, 0},
		{0, 0},
		{1, 1},
		{2, 2},
		{3, 3},
		{64, 64},
		{300, 300},
		{4095, 4095},
		{4096, 4096},
		{4097, 4096},
		{4098, 4096},
		{8192, 4096},
		{1 << 32, 4096},
		{1<<32 + 3, 4096},
		{math.MaxInt - 1, 4096},
		{math.MaxInt, 4096},
	} {
		checkState(t, gauge.New(c.limit), c.want, count{}, false)
	}
}

// To a new gauge nothing was shown, whatever was to others, and the limit holds whatever is shown.
func TestNewOfEachLimit(t *testing.T) {
	for _, n := range ends() {
		p := newPair(n)
		checkState(t, p.g, cut(n), count{}, false)
		for _, a := range all() {
			p.take(t, a)
		}
		p.row(t, right()...)
		checkState(t, p.g, cut(n), p.m.tells(), true)
		checkState(t, gauge.New(n), cut(n), count{}, false)
	}
}

func TestTakeTable(t *testing.T) {
	type shown struct {
		a          fraction
		fits       bool
		seen, peak int
		over       bool
	}
	for i, c := range []struct {
		limit int
		shown []shown
	}{
		{0, []shown{{fr("0"), false, 1, 1, true}, {fraction{}, true, 2, 1, true}, {fr("1"), false, 3, 2, true}}},
		{0, []shown{{fraction{}, true, 1, 0, false}, {over(minus(0), 0), true, 2, 0, false}, {over(plus(), 1), false, 3, 1, true}}},
		{-5, []shown{{fraction{}, true, 1, 0, false}, {fr("0"), false, 2, 1, true}}},
		{1, []shown{{fr("0"), true, 1, 1, false}, {fr("0"), true, 2, 1, false}, {fr("1"), false, 3, 2, true}, {fr("0"), true, 4, 2, true}}},
		{1, []shown{{over(plus(1)), true, 1, 1, false}, {over(plus(), 1), true, 2, 1, false}, {over(plus(2)), false, 3, 2, true}}},
		{2, []shown{{fr("1"), true, 1, 2, false}, {fr("-1"), true, 2, 2, false}, {fr("2"), false, 3, 3, true}, {fr("1/2"), false, 4, 3, true}}},
		{3, []shown{{fr("1/2"), true, 1, 3, false}, {fr("2"), true, 2, 3, false}, {fr("4"), false, 3, 4, true}}},
		{3, []shown{{fr("4"), false, 1, 4, true}, {fr("1/2"), true, 2, 4, true}, {fr("8"), false, 3, 5, true}, {fr("1"), true, 4, 5, true}}},
		{3, []shown{{fr("-3/2"), false, 1, 4, true}, {fr("-3/2"), false, 2, 4, true}, {fr("-3/2"), false, 3, 4, true}}},
		{4, []shown{{fr("-3/2"), true, 1, 4, false}, {fr("-3/2"), true, 2, 4, false}, {fr("0"), true, 3, 4, false}}},
		{33, []shown{{fr("4294967295"), true, 1, 33, false}, {fr("4294967296"), false, 2, 34, true}}},
		{33, []shown{{fr("1/4294967295"), true, 1, 33, false}, {fr("-1/4294967296"), false, 2, 34, true}}},
		{4096, []shown{{long(4095, 7), true, 1, 4095, false}, {long(4096, 7), true, 2, 4096, false}, {long(4097, 7), false, 3, 4097, true}, {long(4096, 7), true, 4, 4097, true}}},
		{4097, []shown{{long(4096, 4095), true, 1, 4096, false}, {long(4097, 4096), false, 2, 4097, true}}},
		{math.MaxInt, []shown{{long(4096, 2048), true, 1, 4096, false}, {long(4097, 2048), false, 2, 4097, true}, {long(9000, 1), false, 3, 9000, true}}},
		{math.MinInt, []shown{{fr("0"), false, 1, 1, true}}},
		// As they stand: 2/4 is longer than 1/2, and noughts at the end of a list are no bits.
		{4, []shown{{over(plus(2), 4), false, 1, 5, true}, {over(plus(1), 2), true, 2, 5, true}}},
		{5, []shown{{over(plus(2), 4), true, 1, 5, false}, {over(minus(12), 18), false, 2, 9, true}}},
		{3, []shown{{over(plus(7)), true, 1, 3, false}, {over(minus(7), 0), true, 2, 3, false}, {over(plus(8), 0, 0), false, 3, 4, true}}},
		{3, []shown{{over(minus(), 3), true, 1, 2, false}, {over(minus(0), 6, 0), true, 2, 3, false}, {over(minus(0, 0), 9), false, 3, 4, true}}},
		{4, []shown{{over(plus(1, 0, 0), 4, 0), true, 1, 4, false}, {over(minus(3, 0), 2, 0, 0, 0), true, 2, 4, false}, {over(plus(0, 0, 0), 0, 1), false, 3, 33, true}}},
		{64, []shown{{over(plus(greatest), greatest), true, 1, 64, false}, {over(plus(0, 1), greatest), false, 2, 65, true}}},
	} {
		g := gauge.New(c.limit)
		for k, s := range c.shown {
			if got := g.Take(s.a); got != s.fits {
				t.Fatalf("%d: limit %d: Take(%v) at %d: %v", i, c.limit, s.a, k, got)
			}
			checkState(t, g, cut(c.limit), count{Seen: s.seen, Peak: s.peak}, s.over)
		}
	}
}

// Each fraction alone, with limits just as long, and a bit shorter and longer, and shown once more.
func TestTakeAtItsOwnLength(t *testing.T) {
	for _, a := range all() {
		n := bits(a)
		for _, limit := range []int{n - 2, n - 1, n, n + 1, n + 2, 0, maxBits} {
			p := newPair(limit)
			for range 3 {
				p.take(t, a)
			}
			checkState(t, p.g, cut(limit), count{Seen: 3, Peak: n}, n > cut(limit))
		}
	}
}

// It's both numbers together that count, however the bits are shared out between them.
func TestTakeCountsBothNumbers(t *testing.T) {
	for _, n := range []int{2, 3, 5, 31, 32, 33, 34, 63, 64, 65, 66, 97, 129, maxBits - 1, maxBits} {
		for den := 1; den < n; den += 1 + n/40 {
			for _, limit := range []int{n - 1, n} {
				p := newPair(limit)
				p.take(t, long(n, den))
				p.take(t, frac.Neg(long(n, den)))
				checkState(t, p.g, limit, count{Seen: 2, Peak: n}, limit < n)
			}
		}
	}
}

// Each behind each other, so that shorter ones come behind longer ones, too.
func TestTakeOfPairs(t *testing.T) {
	l := all()
	for _, a := range l {
		for _, b := range l {
			p := newPair(min(bits(a), bits(b)))
			p.take(t, a)
			p.take(t, b)
		}
	}
}

func TestTakeOfMany(t *testing.T) {
	for _, limit := range []int{0, 1, 3, 5, 33, 66, 1000, maxBits, maxBits + 5} {
		for by := range 7 {
			p := newPair(limit)
			l := all()
			for i := range 3 * len(l) {
				p.take(t, l[(i*(2*by+1)+by)%len(l)])
			}
		}
	}
}

func TestOverIsSaidFromTheFirstThatIsTooLong(t *testing.T) {
	for place := range 6 {
		p := newPair(10)
		for i := range 12 {
			a := long(2+i%9, 1)
			if i == place {
				a = long(11, 4)
			}
			p.take(t, a)
			if p.g.Over() != (i >= place) {
				t.Fatalf("too long at %d: over at %d: %v", place, i, p.g.Over())
			}
		}
	}
}

func TestRowTable(t *testing.T) {
	for i, c := range []struct {
		limit int
		l     fracs
		at    int
		ok    bool
		tells count
		over  bool
	}{
		{3, nil, 0, true, count{}, false},
		{0, nil, 0, true, count{}, false},
		{0, fracs{}, 0, true, count{}, false},
		{maxBits, fracs{}, 0, true, count{}, false},
		{3, line("1/2"), 1, true, count{Seen: 1, Peak: 3}, false},
		{3, line("4"), 0, false, count{Seen: 1, Peak: 4}, true},
		{0, line("0"), 0, false, count{Seen: 1, Peak: 1}, true},
		{0, fracs{{}}, 1, true, count{Seen: 1}, false},
		{0, fracs{{}, {}, fr("0"), {}}, 2, false, count{Seen: 3, Peak: 1}, true},
		{1, line("0 0 0"), 3, true, count{Seen: 3, Peak: 1}, false},
		{3, line("1/2 2 3 -1 0"), 5, true, count{Seen: 5, Peak: 3}, false},
		{3, line("0 1 0"), 3, true, count{Seen: 3, Peak: 2}, false},
		{3, line("4 1 2"), 0, false, count{Seen: 1, Peak: 4}, true},
		{3, line("1 4 2"), 1, false, count{Seen: 2, Peak: 4}, true},
		{3, line("1 2 4"), 2, false, count{Seen: 3, Peak: 4}, true},
		{3, line("1 4 8"), 1, false, count{Seen: 2, Peak: 4}, true},
		{3, line("8 4 1"), 0, false, count{Seen: 1, Peak: 5}, true},
		{3, line("1 4 2 4"), 1, false, count{Seen: 2, Peak: 4}, true},
		{3, line("1 0 1000 2000 0"), 2, false, count{Seen: 3, Peak: 11}, true},
		{2, line("1 1 1 1/2 1/2"), 3, false, count{Seen: 4, Peak: 3}, true},
		{-1, line("1 1"), 0, false, count{Seen: 1, Peak: 2}, true},
		{5, fracs{over(plus(2), 4), over(plus(3), 6), over(minus(4), 8)}, 2, false, count{Seen: 3, Peak: 7}, true},
		{3, fracs{over(plus(7)), over(minus(), 7, 0), over(minus(1, 0), 2), over(plus(8))}, 3, false, count{Seen: 4, Peak: 4}, true},
		{maxBits + 1, fracs{long(maxBits, 1), long(maxBits, 77), long(maxBits+1, 77)}, 2, false, count{Seen: 3, Peak: maxBits + 1}, true},
		{math.MaxInt, fracs{long(maxBits, 1), long(maxBits-1, 77)}, 2, true, count{Seen: 2, Peak: maxBits}, false},
	} {
		g := gauge.New(c.limit)
		if at, ok := g.Row(c.l...); at != c.at || ok != c.ok {
			t.Fatalf("%d: limit %d: Row(%v): %d, %v; want %d, %v", i, c.limit, c.l, at, ok, c.at, c.ok)
		}
		checkState(t, g, cut(c.limit), c.tells, c.over)
	}
}

// The ones that are too long stand at each place, one alone, or another one behind it.
func TestRowOfTooLongOnesAtEachPlace(t *testing.T) {
	for n := 1; n <= 9; n++ {
		for first := range n {
			for second := first; second < n; second++ {
				for _, limit := range []int{5, 64} {
					l := make(fracs, n)
					for i := range l {
						l[i] = long(limit-i%3, 1+i%2)
					}
					l[first], l[second] = long(limit+1, 2), long(limit+2, 2)
					peak := limit + 1
					if first == second {
						peak = limit + 2
					}
					g := gauge.New(limit)
					if at, ok := g.Row(l...); at != first || ok {
						t.Fatalf("%d, too long at %d and %d: %d, %v", n, first, second, at, ok)
					}
					checkState(t, g, limit, count{Seen: first + 1, Peak: peak}, true)
				}
			}
		}
	}
}

// Of rows of all that may be shown, told in some orders, from each place on.
func TestRowIsTakeOfOneAfterTheOther(t *testing.T) {
	l := all()
	for _, limit := range []int{0, 1, 2, 3, 4, 33, 64, 65, 130, 1000, maxBits, 20000} {
		for from := range l {
			for _, n := range []int{0, 1, 2, 5, len(l)} {
				r := append(slices.Clone(l[from:]), l[:from]...)[:n]
				p, one := newPair(limit), gauge.New(limit)
				p.row(t, r...)
				for _, a := range r {
					if !one.Take(a) {
						break
					}
				}
				if one.Tells() != p.g.Tells() || one.Over() != p.g.Over() {
					t.Fatalf("limit %d: Row(%v): %v; Take %v", limit, r, p.g.Tells(), one.Tells())
				}
			}
		}
	}
}

func TestRowOfMany(t *testing.T) {
	const n = 100000
	r := slices.Repeat(line("1/2"), n)
	g := gauge.New(3)
	if at, ok := g.Row(r...); at != n || !ok {
		t.Fatal(at, ok)
	}
	checkState(t, g, 3, count{Seen: n, Peak: 3}, false)
	r[n-1] = fr("4")
	if at, ok := g.Row(r...); at != n-1 || ok {
		t.Fatal(at, ok)
	}
	checkState(t, g, 3, count{Seen: 2 * n, Peak: 4}, true)
	r[n/2] = fr("-1/4")
	if at, ok := g.Row(r...); at != n/2 || ok {
		t.Fatal(at, ok)
	}
	checkState(t, g, 3, count{Seen: 2*n + n/2 + 1, Peak: 4}, true)
}

// A gauge that is over goes on: what fits fits, and a row that fits goes through.
func TestRowAndTakeInTurns(t *testing.T) {
	for _, limit := range []int{0, 1, 2, 3, 4, 5, 33, 64, 130, maxBits} {
		p := newPair(limit)
		l := all()
		for i := range 2 * len(l) {
			from := i * 7 % len(l)
			p.take(t, l[from])
			p.row(t, l[from:min(from+i%5, len(l))]...)
			p.row(t)
			p.row(t, l[i%len(l)], l[from])
		}
	}
}

func TestRowAndTakeInTurnsTable(t *testing.T) {
	g := gauge.New(3)
	if !g.Take(fr("1")) {
		t.Error("1 is too long")
	}
	checkState(t, g, 3, count{Seen: 1, Peak: 2}, false)
	if at, ok := g.Row(line("2 1/2")...); at != 2 || !ok {
		t.Error(at, ok)
	}
	checkState(t, g, 3, count{Seen: 3, Peak: 3}, false)
	if at, ok := g.Row(line("0 5 6")...); at != 1 || ok {
		t.Error(at, ok)
	}
	checkState(t, g, 3, count{Seen: 5, Peak: 4}, true)
	if !g.Take(fr("3")) || g.Take(fr("100")) {
		t.Error("3 is too long, or 100 isn't")
	}
	checkState(t, g, 3, count{Seen: 7, Peak: 8}, true)
	if at, ok := g.Row(line("1 1 1")...); at != 3 || !ok {
		t.Error(at, ok)
	}
	if at, ok := g.Row(); at != 0 || !ok {
		t.Error(at, ok)
	}
	checkState(t, g, 3, count{Seen: 10, Peak: 8}, true)
}

// Neither of two gauges counts for the other, with one limit or with two.
func TestGaugesSideBySide(t *testing.T) {
	for _, other := range []int{0, 3, 4, maxBits} {
		a, b, idle := newPair(3), newPair(other), newPair(3)
		l := all()
		for i := range l {
			a.take(t, l[i])
			b.check(t)
			b.row(t, l[i/2:i]...)
			a.check(t)
			if i%3 == 0 {
				a.row(t, l[i:]...)
				b.check(t)
			}
			idle.check(t)
		}
		checkState(t, idle.g, 3, count{}, false)
	}
}

// Shown one after the other: over just if the longest is longer than the limit.
func TestOverIsThatOfTheLongest(t *testing.T) {
	for limit := range 70 {
		for longest := 2; longest < 70; longest++ {
			g := gauge.New(limit)
			for n := range longest - 1 {
				g.Take(long(n+2, 1+n%3%(n+1)))
				if g.Over() != (g.Tells().Peak > g.Limit()) || g.Tells().Peak != n+2 {
					t.Fatalf("limit %d: %v, over %v", limit, g.Tells(), g.Over())
				}
			}
			if g.Over() != (longest > limit) {
				t.Fatalf("limit %d: %v, over %v", limit, g.Tells(), g.Over())
			}
		}
	}
}

// The limit is the least one that a row goes through, and it goes through all that are greater.
func TestRowGoesThroughGreaterLimits(t *testing.T) {
	l := all()
	for from := range l {
		r := l[from:min(from+4, len(l))]
		longest := 0
		for _, a := range r {
			longest = max(longest, bits(a))
		}
		for _, limit := range append(ends(), longest-1, longest, longest+1) {
			g := gauge.New(limit)
			at, ok := g.Row(r...)
			if through := longest <= cut(limit); ok != through || g.Over() == through || through != (at == len(r)) {
				t.Fatalf("limit %d, longest %d: %d, %v, over %v", limit, longest, at, ok, g.Over())
			}
			if !ok {
				continue
			}
			for more := range 3 {
				if at, ok := gauge.New(limit + more).Row(r...); limit < math.MaxInt-3 && (at != len(r) || !ok) {
					t.Fatalf("through %d, not through %d: at %d", limit, limit+more, at)
				}
			}
		}
	}
}

func TestTellsIsNotChangedLater(t *testing.T) {
	g := gauge.New(3)
	none := g.Tells()
	g.Take(fr("1/2"))
	one := g.Tells()
	g.Row(line("1 9 1")...)
	two := g.Tells()
	g.Take(fr("1/1000"))
	if none != (count{}) || one != (count{Seen: 1, Peak: 3}) || two != (count{Seen: 3, Peak: 5}) {
		t.Error(none, one, two)
	}
}

// What is answered is no part of the gauge.
func TestTellsMayBeWrittenOn(t *testing.T) {
	g := gauge.New(3)
	g.Take(fr("1/2"))
	told := g.Tells()
	told.Seen, told.Peak = 4711, 815
	checkState(t, g, 3, count{Seen: 1, Peak: 3}, false)
	g.Take(fr("4"))
	checkState(t, g, 3, count{Seen: 2, Peak: 4}, true)
}

// What is counted is embedded in the gauge.
func TestWhatIsCountedIsTheGauges(t *testing.T) {
	g := gauge.New(3)
	for _, a := range right() {
		g.Take(a)
		if g.Count != g.Tells() || g.Seen != g.Tells().Seen || g.Peak != g.Tells().Peak {
			t.Fatalf("%v; want %v", g.Count, g.Tells())
		}
	}
}

// lendList hands out a with spare room behind it, whose words show who wrote there, or who read.
func lendList(a list, fill uint32) list { return behind(a, fill, fill, fill)[:len(a)] }

func lend(a fraction, fill uint32) fraction {
	return fraction{Num: number{Neg: a.Num.Neg, Abs: lendList(a.Num.Abs, fill)}, Den: lendList(a.Den, fill)}
}

func lendLine(a fracs, fill uint32) fracs {
	var l fracs
	for _, c := range append(slices.Clone(a), over(plus(fill), fill), over(minus(fill, 1), 1), long(20000, 9)) {
		l = append(l, lend(c, fill))
	}
	return l[:len(a)]
}

func room(a list) list { return a[:cap(a)] }

// rooms writes a row with all that lies in its spare room, and in that of its fractions.
func rooms(a fracs) string {
	var s strings.Builder
	fmt.Fprint(&s, len(a), ":")
	for _, c := range a[:cap(a)] {
		fmt.Fprint(&s, c.Num.Neg, len(c.Num.Abs), room(c.Num.Abs), len(c.Den), room(c.Den), " ")
	}
	return s.String()
}

// told writes what all calls tell of a gauge to which this row is shown.
func told(limit int, r fracs) string {
	var s strings.Builder
	g := gauge.New(limit)
	for i := range r {
		fmt.Fprintln(&s, g.Take(r[i]), g.Tells(), g.Over(), g.Limit())
	}
	at, ok := g.Row(r...)
	fmt.Fprintln(&s, at, ok, g.Tells(), g.Over(), g.Limit())
	return s.String()
}

func TestWhatIsHandedInIsLeft(t *testing.T) {
	l := all()
	for _, limit := range []int{-1, 0, 3, 64, maxBits, math.MaxInt} {
		for from := 0; from <= len(l); from += 5 {
			for _, n := range []int{0, 1, 3, 8} {
				r := l[from:min(from+n, len(l))]
				want := told(limit, r)
				for _, fill := range []uint32{0, 1, greatest} {
					x := lendLine(r, fill)
					before := rooms(x)
					// The same answers whatever lies behind the lengths, so that isn't read.
					if got := told(limit, x); got != want {
						t.Fatalf("%d: %v with %d behind: %s; want %s", limit, r, fill, got, want)
					}
					if after := rooms(x); after != before {
						t.Fatalf("%d: %v with %d behind: made of it %s", limit, r, fill, after)
					}
				}
			}
		}
	}
}

// spoil makes all that a row holds longer than any limit, or 0, its spare room too.
func spoil(a fracs, with uint32) {
	a = a[:cap(a)]
	for i := range a {
		for _, words := range []list{room(a[i].Num.Abs), room(a[i].Den)} {
			for k := range words {
				words[k] = with
			}
		}
		a[i] = over(plus(repeat(with, 1000)...), with)
	}
}

// What was shown is written on behind the call: what the gauge tells must not move.
func TestWhatIsHandedInIsNotKept(t *testing.T) {
	for _, limit := range []int{0, 3, 64, maxBits} {
		for _, with := range []uint32{0, greatest} {
			p := newPair(limit)
			for _, a := range all() {
				x := lendLine(fracs{a}, 1)
				p.take(t, x[0])
				spoil(x, with)
				p.check(t)
				y := lendLine(fracs{a, fr("1/2"), a}, 1)
				p.row(t, y...)
				spoil(y, with)
				p.check(t)
				p.take(t, fr("1"))
			}
		}
	}
}

// One fraction may stand at all places of a row, and be shown to several gauges.
func TestOneAtAllPlaces(t *testing.T) {
	for _, a := range all() {
		x := lend(a, 5)
		r := slices.Repeat(fracs{x}, 6)
		before := rooms(r)
		p, q := newPair(bits(a)), newPair(bits(a)-1)
		p.row(t, r...)
		q.row(t, r...)
		p.take(t, x)
		if rooms(r) != before {
			t.Fatalf("%v: made of it %s", a, rooms(r))
		}
	}
}

// Gauges that were made alike, and shown the same, tell the same.
func TestTheSameTwice(t *testing.T) {
	for _, limit := range ends() {
		if a, b := told(limit, all()), told(limit, all()); a != b {
			t.Fatalf("limit %d: %s, then %s", limit, a, b)
		}
	}
}

// Noughts at the end of lists, however many, cost no more than to go over them.
func TestNoughtsAtTheEndAreCheap(t *testing.T) {
	end := repeat(0, 1000000)
	var short, noughts fracs
	for _, a := range wrong() {
		short = append(short, a)
		noughts = append(noughts, over(number{Neg: a.Num.Neg, Abs: behind(a.Num.Abs, end...)}, behind(a.Den, end...)...))
	}
	for _, limit := range []int{3, maxBits} {
		if got, want := told(limit, noughts), told(limit, short); got != want {
			t.Fatalf("limit %d: %s; want %s", limit, got, want)
		}
	}
}

func TestExamples(t *testing.T) {
	g := gauge.New(3)
	half, ok := frac.Ratio(1, 2)
	if !ok || !g.Take(half) || !g.Take(frac.Of(2)) || g.Take(frac.Of(4)) {
		t.Error("Take")
	}
	if got := g.Tells(); got != (count{Seen: 3, Peak: 4}) {
		t.Error(got)
	}
}
