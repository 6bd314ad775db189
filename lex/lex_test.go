package lex_test

import (
	"fmt"
	"math"
	"regexp"
	"slices"
	"strings"
	"testing"
	"unsafe"

	"retrospect/api"
	"retrospect/lex"
)

// As the document names them.
const (
	maxText   = 4000
	maxDigits = 60
	maxName   = 12
	signs     = "+-*/^()[],;="
)

type word = lex.Word

func num(text string, at int) word { return word{Kind: 1, Text: text, At: at} }

func nam(text string, at int) word { return word{Kind: 2, Text: text, At: at} }

func sgn(text string, at int) word { return word{Kind: 3, Text: text, At: at} }

func parseAt(place int) api.Fault { return api.Fault{Kind: 1, At: place} }

// digits are n without a pattern; the first one is no nought.
func digits(n int) string {
	return strings.Repeat("31415926535897932384626433832795", n/32+1)[:n]
}

// letters are n bytes of a name: its neighbours, and those some few places on, are others.
func letters(n int) string {
	return strings.Repeat("kX_7wQ0vf9Zt_3", n/14+1)[:n]
}

// pieces tells the three kinds of words in three groups; what it finds in none of them is blanks.
var pieces = regexp.MustCompile(`^(?:[ \t\n\r]+|#[^\n]*|([0-9]+)|([A-Za-z_][A-Za-z_0-9]*)|([-+*/^()\[\],;=]))`)

func longest(kind int) int { return []int{0, maxDigits, maxName, 1}[kind] }

// told is what the chapter says of Scan.
func told(s string) ([]word, api.Fault) {
	if len(s) > maxText {
		return nil, parseAt(maxText)
	}
	var l []word
	for i := 0; i < len(s); {
		found := pieces.FindStringSubmatchIndex(s[i:])
		if found == nil {
			return nil, parseAt(i)
		}
		n := found[1]
		for kind := 1; kind <= 3; kind++ {
			if found[2*kind] < 0 {
				continue
			}
			if n > longest(kind) {
				return nil, parseAt(i + longest(kind))
			}
			l = append(l, word{Kind: kind, Text: s[i : i+n], At: i})
		}
		i += n
	}
	return l, api.Fault{}
}

// isRight is what the chapter says of Right.
func isRight(w word) bool {
	if w.Kind < 1 || w.Kind > 3 {
		return false
	}
	found := pieces.FindStringSubmatchIndex(w.Text)
	return found != nil && found[2*w.Kind] == 0 && found[1] == len(w.Text) && len(w.Text) <= longest(w.Kind)
}

// same holds two lists against each other to the last field; nil and empty ones are the same.
func same(a, b []word) bool { return slices.Equal(a, b) }

// alike leaves the places out.
func alike(a, b []word) bool {
	return slices.EqualFunc(a, b, func(v, w word) bool { return v.Kind == w.Kind && v.Text == w.Text })
}

func checkScan(t *testing.T, s string, want ...word) {
	t.Helper()
	if got, fault := lex.Scan(s); fault != (api.Fault{}) || !same(got, want) {
		t.Fatalf("Scan(%q): %v, %v; want %v", s, got, fault, want)
	}
}

// checkRefused asks for what stands beside a fault, too.
func checkRefused(t *testing.T, s string, place int) {
	t.Helper()
	if got, fault := lex.Scan(s); fault != parseAt(place) || len(got) != 0 {
		t.Fatalf("Scan(%q): %v, %v; want none, %v", s, got, fault, parseAt(place))
	}
}

// check holds Scan against what the chapter says of it.
func check(t *testing.T, s string) {
	t.Helper()
	want, fault := told(s)
	if fault != (api.Fault{}) {
		checkRefused(t, s, fault.At)
		return
	}
	checkScan(t, s, want...)
}

func checkRight(t *testing.T, w word, want bool) {
	t.Helper()
	if got := lex.Right(w); got != want {
		t.Fatalf("Right(%d, %q, %d): %v; want %v", w.Kind, w.Text, w.At, got, want)
	}
}

func TestTopNames(t *testing.T) {
	if kinds := []int{lex.Number, lex.Name, lex.Sign}; !slices.Equal(kinds, []int{1, 2, 3}) {
		t.Errorf("kinds of words: %d; want 1 2 3", kinds)
	}
}

func TestScanTable(t *testing.T) {
	for _, c := range []struct {
		s    string
		want []word
	}{
		{"", nil},
		{" ", nil},
		{" \t\n\r", nil},
		{"\r\n\r\n   \t", nil},
		{"0", []word{num("0", 0)}},
		{"007", []word{num("007", 0)}},
		{"1234567890", []word{num("1234567890", 0)}},
		{"a", []word{nam("a", 0)}},
		{"_", []word{nam("_", 0)}},
		{"___", []word{nam("___", 0)}},
		{"_1", []word{nam("_1", 0)}},
		{"_a", []word{nam("_a", 0)}},
		{"a_", []word{nam("a_", 0)}},
		{"a1_B2", []word{nam("a1_B2", 0)}},
		{"let", []word{nam("let", 0)}},
		{"aA", []word{nam("aA", 0)}},
		{"AzaZ", []word{nam("AzaZ", 0)}},
		{"+", []word{sgn("+", 0)}},
		{"-1", []word{sgn("-", 0), num("1", 1)}},
		{"--", []word{sgn("-", 0), sgn("-", 1)}},
		{"==", []word{sgn("=", 0), sgn("=", 1)}},
		{"+-*/^()[],;=", []word{sgn("+", 0), sgn("-", 1), sgn("*", 2), sgn("/", 3), sgn("^", 4), sgn("(", 5), sgn(")", 6), sgn("[", 7), sgn("]", 8), sgn(",", 9), sgn(";", 10), sgn("=", 11)}},
		{"2a", []word{num("2", 0), nam("a", 1)}},
		{"2_", []word{num("2", 0), nam("_", 1)}},
		{"a2", []word{nam("a2", 0)}},
		{"a 2", []word{nam("a", 0), num("2", 2)}},
		{"2 a", []word{num("2", 0), nam("a", 2)}},
		{"2 3", []word{num("2", 0), num("3", 2)}},
		{"a b", []word{nam("a", 0), nam("b", 2)}},
		{"2a3b", []word{num("2", 0), nam("a3b", 1)}},
		{"a+2", []word{nam("a", 0), sgn("+", 1), num("2", 2)}},
		{"2+a", []word{num("2", 0), sgn("+", 1), nam("a", 2)}},
		{" a", []word{nam("a", 1)}},
		{"a ", []word{nam("a", 0)}},
		{"\ta\n2\r+ ", []word{nam("a", 1), num("2", 3), sgn("+", 5)}},
		{"1\n2", []word{num("1", 0), num("2", 2)}},
		{"1\r2", []word{num("1", 0), num("2", 2)}},
		{"1\t2", []word{num("1", 0), num("2", 2)}},
		{"a  \t \r\n  b", []word{nam("a", 0), nam("b", 9)}},
		{"#", nil},
		{"##", nil},
		{"#\n", nil},
		{"#\n#", nil},
		{"\n#\n", nil},
		{"# a", nil},
		{"#a\n", nil},
		{"#\na", []word{nam("a", 2)}},
		{"#a\nb", []word{nam("b", 3)}},
		{"#a#\nb", []word{nam("b", 4)}},
		{"#a#b#\nc#d\ne", []word{nam("c", 6), nam("e", 10)}},
		{"#a\rb\nc", []word{nam("c", 5)}},
		{"#a\r\nb", []word{nam("b", 4)}},
		{"#\r", nil},
		{"# \t $.!\"%&':<>?@\\`{|}~\x00\x7f\x80\xff é\n1", []word{num("1", 30)}},
		{"a#b", []word{nam("a", 0)}},
		{"a#b\nc", []word{nam("a", 0), nam("c", 4)}},
		{"1#\n2", []word{num("1", 0), num("2", 3)}},
		{"+#\n-", []word{sgn("+", 0), sgn("-", 3)}},
		{"a # b", []word{nam("a", 0)}},
		{"a#", []word{nam("a", 0)}},
		{"a #$", []word{nam("a", 0)}},
		{"a #\n", []word{nam("a", 0)}},
		{"a #\n\n#\n b", []word{nam("a", 0), nam("b", 8)}},
		{"let a = t;\n[a*a, 1/2]", []word{
			nam("let", 0), nam("a", 4), sgn("=", 6), nam("t", 8), sgn(";", 9),
			sgn("[", 11), nam("a", 12), sgn("*", 13), nam("a", 14), sgn(",", 15), num("1", 17), sgn("/", 18), num("2", 19), sgn("]", 20),
		}},
	} {
		checkScan(t, c.s, c.want...)
	}
}

func TestScanRefusedTable(t *testing.T) {
	for _, c := range []struct {
		s     string
		place int
	}{
		{"$", 0},
		{".", 0},
		{"!", 0},
		{"\"", 0},
		{"'", 0},
		{":", 0},
		{"<", 0},
		{"?", 0},
		{"@", 0},
		{"\\", 0},
		{"`", 0},
		{"{", 0},
		{"|", 0},
		{"~", 0},
		{"\x00", 0},
		{"\v", 0},
		{"\f", 0},
		{"\x1f", 0},
		{"\x7f", 0},
		{"\x80", 0},
		{"\x85", 0},
		{"\xa0", 0},
		{"\xab", 0},
		{"\xad", 0},
		{"\xff", 0},
		{"é", 0},
		{"٣", 0},
		{"−", 0},
		{"\u00a0", 0},
		{"\ufeffa", 0},
		{"aé", 1},
		{"1.5", 1},
		{"1e5.", 3},
		{"a.b", 1},
		{"a b.", 3},
		{"  .", 2},
		{"a\vb", 1},
		{"a\u2028b", 1},
		{"+\x80", 1},
		{"1\x80", 1},
		{"a\xff", 1},
		{"1 2 3 \xc3", 6},
		{"\xc3a", 0},
		{"a\xc3 b", 1},
		{"#\n$", 2},
		{"#$\n$", 3},
		{"#\r$\n\x80", 4},
		{"a#$\n $", 5},
		{"$#", 0},
		{"a$#\n", 1},
		{"$$", 0},
		{"a$b$", 1},
	} {
		checkRefused(t, c.s, c.place)
	}
}

// kindOf tells of which kind the word is that a byte makes on its own; 0 of a blank, and of a #; -1, if it begins none.
func kindOf(c byte) int {
	switch {
	case strings.IndexByte("0123456789", c) >= 0:
		return 1
	case strings.IndexByte("ABCDEFGHIJKLMNOPQRSTUVWXYZ_abcdefghijklmnopqrstuvwxyz", c) >= 0:
		return 2
	case strings.IndexByte(signs, c) >= 0:
		return 3
	case c == 32 || c == 9 || c == 10 || c == 13 || c == 35:
		return 0
	}
	return -1
}

func TestScanOfEachByteAlone(t *testing.T) {
	count := make([]int, 5)
	for c := range 256 {
		s := string([]byte{byte(c)})
		kind := kindOf(byte(c))
		count[kind+1]++
		switch kind {
		case -1:
			checkRefused(t, s, 0)
		case 0:
			checkScan(t, s)
		default:
			checkScan(t, s, word{Kind: kind, Text: s})
		}
	}
	if want := []int{256 - 5 - 10 - 53 - 12, 5, 10, 53, 12}; !slices.Equal(count, want) {
		t.Fatalf("bytes of the kinds: %d; want %d", count, want)
	}
}

// Each byte stands ahead of, behind and between words of each kind, with blanks and without, alone and twice.
func TestScanOfEachByteBetweenWords(t *testing.T) {
	beside := []string{"", " ", "7", "x", "_", "Y9", "+", "]", "\n", "#", "#$\n", "\r", "12 ", " b", "(\t", "é"}
	for c := range 256 {
		middle := string([]byte{byte(c)})
		for _, ahead := range beside {
			for _, behind := range beside {
				check(t, ahead+middle+behind)
				check(t, ahead+middle+middle+behind)
			}
		}
	}
}

func TestScanOfEachByteBetweenBlanks(t *testing.T) {
	for c := range 256 {
		s := string([]byte{byte(c)})
		switch kind := kindOf(byte(c)); {
		case kind < 0:
			checkRefused(t, "a "+s+" 5", 2)
		case c == 35:
			checkScan(t, "a "+s+" 5", nam("a", 0))
		case kind == 0:
			checkScan(t, "a "+s+" 5", nam("a", 0), num("5", 4))
		default:
			checkScan(t, "a "+s+" 5", nam("a", 0), word{Kind: kind, Text: s, At: 2}, num("5", 4))
		}
	}
}

// Behind a # each byte is a blank, but for the one that ends the line.
func TestScanOfEachByteBehindAMark(t *testing.T) {
	for c := range 256 {
		s := string([]byte{byte(c)})
		for _, text := range []string{"#" + s, "##" + s, "# a" + s, "#" + s + "$"} {
			if c == 10 && strings.HasSuffix(text, "$") {
				checkRefused(t, text, 2)
				continue
			}
			checkScan(t, text)
		}
		checkScan(t, "#"+s+"\n7", num("7", 3))
		if c == 10 {
			checkScan(t, "6#"+s+"7", num("6", 0), num("7", 3))
			continue
		}
		checkScan(t, "6#"+s+"7", num("6", 0))
	}
}

// All texts that can be made of a few bytes, up to some length.
func TestScanOfAllShortTexts(t *testing.T) {
	bytes := "b_Z07-] \r\n#$\xc3"
	var grow func(s string, left int)
	grow = func(s string, left int) {
		check(t, s)
		if left == 0 {
			return
		}
		for i := range len(bytes) {
			grow(s+bytes[i:i+1], left-1)
		}
	}
	grow("", 5)
}

// Words of each length stand at the beginning, in the middle and at the end.
func TestScanOfLongWords(t *testing.T) {
	around := []string{"", " ", "+", "#z\n", "a ", "3 ", "let x = (", "\n\t", strings.Repeat(" ", 100)}
	for _, ahead := range around {
		for _, behind := range []string{"", " ", "-", ")", "#", "# \n9", " 8", " b", "\r\n"} {
			for n := 1; n <= 2*maxDigits+2; n++ {
				check(t, ahead+digits(n)+behind)
				check(t, ahead+letters(n)+behind)
			}
			for _, n := range []int{500, 1000, 3000} {
				at := len(ahead)
				checkRefused(t, ahead+digits(n)+behind, at+60)
				checkRefused(t, ahead+letters(n)+behind, at+12)
			}
		}
	}
}

func TestScanOfLongWordsTable(t *testing.T) {
	number, name := digits(60), letters(12)
	nines, noughts := strings.Repeat("9", 60), strings.Repeat("0", 60)
	checkScan(t, number, num(number, 0))
	checkScan(t, nines, num(nines, 0))
	checkScan(t, noughts, num(noughts, 0))
	checkScan(t, name, nam(name, 0))
	checkScan(t, "____________", nam("____________", 0))
	checkScan(t, "a00000000000", nam("a00000000000", 0))
	checkScan(t, number+name, num(number, 0), nam(name, 60))
	checkScan(t, name+"+"+number, nam(name, 0), sgn("+", 12), num(number, 13))
	checkScan(t, number+" "+number, num(number, 0), num(number, 61))
	checkScan(t, name+" "+name, nam(name, 0), nam(name, 13))
	checkScan(t, number+"#\n"+number, num(number, 0), num(number, 62))
	for _, c := range []struct {
		s     string
		place int
	}{
		{nines + "9", 60},
		{noughts + "0", 60},
		{number + "0", 60},
		{name + "a", 12},
		{name + "0", 12},
		{name + "_", 12},
		{"_____________", 12},
		{"a000000000000", 12},
		{"Z" + number, 12},
		{number + name + "a", 72},
		{name + " " + number + "0", 73},
		{number + " " + number + "7", 121},
		{name + " " + name + "7", 25},
		{"#" + number + "0\n" + number + "0", 123},
	} {
		checkRefused(t, c.s, c.place)
	}
	checkScan(t, "#"+number+"0"+name+"a")
	checkScan(t, "#"+letters(3000)+"\n1", num("1", 3002))
}

// Of two faults in a text the first one is told, whichever they are.
func TestScanOfTwoFaults(t *testing.T) {
	faults := []struct {
		s   string
		gap int
	}{
		{"$", 0},
		{"\x80", 0},
		{digits(61), 60},
		{digits(200), 60},
		{letters(13), 12},
		{letters(200), 12},
		{"b" + digits(61), 12},
		{digits(60) + letters(13), 72},
	}
	for _, a := range faults {
		for _, b := range faults {
			for _, between := range []string{" ", "+", "\n", " x ", "#\n"} {
				checkRefused(t, a.s+between+b.s, a.gap)
				checkRefused(t, "1 "+a.s+between+b.s, 2+a.gap)
				checkRefused(t, "#"+b.s+"\n"+a.s, len(b.s)+2+a.gap)
			}
			checkScan(t, "#"+a.s+"#"+b.s)
			checkScan(t, "p #"+a.s+"\n#"+b.s+"\n", nam("p", 0))
		}
	}
}

// fill is a text of n bytes that may be scanned.
func fill(n int) string {
	return strings.Repeat("a1 +22#$\n[_q]\r", n/14+1)[:n]
}

func TestScanOfLongTexts(t *testing.T) {
	for _, n := range []int{maxText - 1, maxText} {
		check(t, fill(n))
		check(t, strings.Repeat("=", n))
		checkScan(t, strings.Repeat(" ", n))
		checkScan(t, "#"+strings.Repeat("$", n-1))
		checkScan(t, strings.Repeat(" ", n-1)+"7", num("7", n-1))
		checkScan(t, strings.Repeat("\n", n-12)+letters(12), nam(letters(12), n-12))
		checkRefused(t, strings.Repeat(" ", n-1)+"$", n-1)
		checkRefused(t, strings.Repeat(" ", n-61)+digits(61), n-1)
		checkRefused(t, strings.Repeat("-", n-13)+letters(13), n-1)
		checkRefused(t, digits(n), 60)
		checkRefused(t, letters(n), 12)
		checkRefused(t, "$"+strings.Repeat(" ", n-1), 0)
	}
	if l, _ := lex.Scan(strings.Repeat("=", maxText)); len(l) != maxText || l[maxText-1] != sgn("=", maxText-1) {
		t.Errorf("Scan of as many signs as may be tells %d words", len(l))
	}
}

// A text that is too long is told ahead of all else that is wrong in it.
func TestScanOfTextsThatAreTooLong(t *testing.T) {
	for _, n := range []int{maxText + 1, maxText + 2, 2 * maxText, 100000, 5000000} {
		checkRefused(t, fill(n), maxText)
		checkRefused(t, strings.Repeat(" ", n), maxText)
		checkRefused(t, strings.Repeat("=", n), maxText)
		checkRefused(t, "#"+strings.Repeat("a", n-1), maxText)
		checkRefused(t, strings.Repeat("$", n), maxText)
		checkRefused(t, digits(n), maxText)
		checkRefused(t, letters(n), maxText)
		checkRefused(t, "$"+strings.Repeat(" ", n-1), maxText)
		checkRefused(t, strings.Repeat(" ", n-1)+"$", maxText)
		checkRefused(t, strings.Repeat("\xff", n), maxText)
	}
}

// noise is a text of n bytes without a pattern, made of those that are named; it's the same one for the same seed.
func noise(bytes string, n int, seed uint32) string {
	x := uint32(2463534242) + seed*2654435761
	s := make([]byte, n)
	for i := range s {
		x ^= x << 13
		x ^= x >> 17
		x ^= x << 5
		s[i] = bytes[int(x>>8)%len(bytes)]
	}
	return string(s)
}

func allBytes() string {
	all := make([]byte, 256)
	for i := range all {
		all[i] = byte(i)
	}
	return string(all)
}

// mixed are texts without a pattern: most of them can be scanned, some can't.
func mixed() []string {
	var l []string
	for seed := range uint32(60) {
		for _, n := range []int{10, 100, 1000, maxText} {
			l = append(l,
				noise("ab_Z019 +[]=,;()^*/- \t\r\n# ", n, seed),
				noise("xY_5 6 +\n#", n, seed),
				noise("k 8 #\n\x80é+", n, seed),
				noise("1a+-*/(=)[],; \n", n, seed),
				noise(allBytes(), n, seed),
				"#"+noise(allBytes(), n-1, seed),
			)
		}
	}
	return l
}

func TestScanOfMixedTexts(t *testing.T) {
	for _, s := range mixed() {
		check(t, s)
	}
}

// Each word's Text stands at its place, behind the word ahead of it; what is between is read as nothing.
func TestEachWordStandsAtItsPlace(t *testing.T) {
	read := 0
	for _, s := range mixed() {
		l, fault := lex.Scan(s)
		if fault != (api.Fault{}) {
			continue
		}
		read++
		end := 0
		for _, w := range l {
			if w.At < end || s[w.At:w.At+len(w.Text)] != w.Text {
				t.Fatalf("Scan(%q): %v doesn't stand at its place", s, w)
			}
			checkScan(t, s[end:w.At])
			end = w.At + len(w.Text)
		}
		checkScan(t, s[end:])
	}
	if read < 200 {
		t.Errorf("only %d texts could be scanned", read)
	}
}

// A text that is refused is refused at the same place without what stands behind that, and what stands ahead of it is read.
func TestWhatStandsBehindAFaultMeansNothing(t *testing.T) {
	for _, s := range mixed() {
		_, fault := lex.Scan(s)
		if fault == (api.Fault{}) {
			continue
		}
		checkRefused(t, s[:fault.At+1], fault.At)
		if _, ahead := lex.Scan(s[:fault.At]); ahead != (api.Fault{}) {
			t.Fatalf("Scan(%q): %v; its first %d bytes: %v", s, fault, fault.At, ahead)
		}
	}
}

func TestRightTable(t *testing.T) {
	for _, c := range []struct {
		kind int
		text string
		want bool
	}{
		{1, "0", true},
		{1, "7", true},
		{1, "00", true},
		{1, "007", true},
		{1, "1234567890", true},
		{1, digits(59), true},
		{1, digits(60), true},
		{1, strings.Repeat("0", 60), true},
		{1, digits(61), false},
		{1, strings.Repeat("0", 61), false},
		{1, digits(120), false},
		{1, "", false},
		{1, "-1", false},
		{1, "+1", false},
		{1, "1.5", false},
		{1, "1/2", false},
		{1, "1e5", false},
		{1, "1_000", false},
		{1, "0x1", false},
		{1, "a", false},
		{1, "1a", false},
		{1, "a1", false},
		{1, "_", false},
		{1, "+", false},
		{1, " 1", false},
		{1, "1 ", false},
		{1, "1 2", false},
		{1, "1\n", false},
		{1, "\n1", false},
		{1, "1#", false},
		{1, "#1", false},
		{1, "#\n1", false},
		{1, "٣", false},
		{1, "1\x80", false},
		{1, "1\x00", false},
		{2, "a", true},
		{2, "z", true},
		{2, "A", true},
		{2, "Z", true},
		{2, "_", true},
		{2, "__", true},
		{2, "_0", true},
		{2, "a0", true},
		{2, "let", true},
		{2, "t", true},
		{2, "aB_9", true},
		{2, letters(11), true},
		{2, letters(12), true},
		{2, "____________", true},
		{2, letters(13), false},
		{2, "_____________", false},
		{2, "a000000000000", false},
		{2, letters(100), false},
		{2, "", false},
		{2, "0", false},
		{2, "0a", false},
		{2, "a-b", false},
		{2, "a b", false},
		{2, "a.b", false},
		{2, " a", false},
		{2, "a ", false},
		{2, "a\t", false},
		{2, "\ra", false},
		{2, "a\n", false},
		{2, "a#", false},
		{2, "#a", false},
		{2, "#\na", false},
		{2, "a[0]", false},
		{2, "+", false},
		{2, "é", false},
		{2, "aé", false},
		{2, "a\xff", false},
		{2, "a@", false},
		{2, "a`", false},
		{2, "a{", false},
		{3, "+", true},
		{3, "=", true},
		{3, "", false},
		{3, "++", false},
		{3, "()", false},
		{3, "+-*/^()[],;=", false},
		{3, "+ ", false},
		{3, " +", false},
		{3, "+#", false},
		{3, "#", false},
		{3, " ", false},
		{3, "\n", false},
		{3, "$", false},
		{3, ".", false},
		{3, "<", false},
		{3, "a", false},
		{3, "1", false},
		{3, "_", false},
		{3, "-1", false},
		{3, "−", false},
		{3, "\xab", false},
		{0, "", false},
		{0, " ", false},
		{0, "#", false},
		{0, "$", false},
		{0, "a", false},
		{0, "1", false},
		{0, "+", false},
		{4, "", false},
		{4, "1", false},
		{4, "a", false},
		{4, "+", false},
		{-1, "1", false},
		{-1, "$", false},
		{-2, "a", false},
		{-3, "+", false},
	} {
		checkRight(t, word{Kind: c.kind, Text: c.text}, c.want)
	}
	checkRight(t, word{}, false)
}

// kinds are the three, their neighbours, and others whose lowest bits are theirs.
func kinds() []int {
	return []int{0, 1, 2, 3, 4, 5, 7, -1, -2, -3, -4, 255, 256, 257, 258, 259, 1<<32 + 1, 1<<32 + 2, 1<<32 + 3, math.MaxInt, math.MinInt, math.MinInt + 1, math.MinInt + 2, math.MinInt + 3}
}

// texts are words of each kind and of each length that matters, and what is none.
func texts() []string {
	l := []string{"", "a b", "1 2", "a1 ", " a1", "1 ", " 1", "+ ", " -", "a\nb", "1\t", "a#", "#a", "#\na", "1#1", "#", "##", "#\n", " ", "\n", "2a", "a2", "_2", "2_", "+1", "1+", "a+", "[]", "a(", "é", "aé", "1é", "+é", "\xff", "a\xff", "let a", "let"}
	for c := range 256 {
		l = append(l, string([]byte{byte(c)}))
	}
	for _, n := range []int{2, 11, 12, 13, 14, 59, 60, 61, 62, 120, maxText, maxText + 1, 100000} {
		l = append(l, digits(n), letters(n), strings.Repeat("0", n), strings.Repeat("_", n), strings.Repeat("+", n), strings.Repeat(" ", n), digits(n-1)+"a", letters(n-1)+" ", " "+letters(n-1), digits(n-1)+"$", letters(n-1)+"é")
	}
	return l
}

func TestRightOfEachKind(t *testing.T) {
	ats := []int{0, 1, -1, maxText, maxText + 1, math.MaxInt, math.MinInt}
	right := 0
	for _, text := range texts() {
		for _, kind := range kinds() {
			want := isRight(word{Kind: kind, Text: text})
			for _, at := range ats {
				checkRight(t, word{Kind: kind, Text: text, At: at}, want)
			}
			if want {
				right++
			}
		}
	}
	if right < 80 {
		t.Errorf("only %d words are right", right)
	}
}

// Each byte stands ahead of, within and behind words of each kind.
func TestRightOfEachByteAtEachPlace(t *testing.T) {
	for _, text := range []string{"12", "ab", "+", "_", digits(59), letters(11)} {
		for c := range 256 {
			for i := 0; i <= len(text); i++ {
				changed := text[:i] + string([]byte{byte(c)}) + text[i:]
				for kind := range 5 {
					w := word{Kind: kind, Text: changed, At: i}
					checkRight(t, w, isRight(w))
				}
			}
		}
	}
}

func TestRightOfAllShortTexts(t *testing.T) {
	bytes := "b_Z07-] \n#$\xc3"
	var grow func(s string, left int)
	grow = func(s string, left int) {
		for kind := range 5 {
			w := word{Kind: kind, Text: s, At: left}
			checkRight(t, w, isRight(w))
		}
		if left == 0 {
			return
		}
		for i := range len(bytes) {
			grow(s+bytes[i:i+1], left-1)
		}
	}
	grow("", 4)
}

// Right is just what Scan tells as the one word of its Text.
func TestRightWordsAreThoseThatScanTells(t *testing.T) {
	for _, text := range texts() {
		l, fault := lex.Scan(text)
		alone := fault == (api.Fault{}) && len(l) == 1 && l[0].Text == text
		for _, kind := range kinds() {
			checkRight(t, word{Kind: kind, Text: text, At: -7}, alone && l[0].Kind == kind)
		}
	}
	for _, s := range mixed() {
		l, _ := lex.Scan(s)
		for _, w := range l {
			checkRight(t, w, true)
		}
	}
}

func checkText(t *testing.T, l []word, want string) {
	t.Helper()
	if got := lex.Text(l); got != want {
		t.Fatalf("Text(%v): %q; want %q", l, got, want)
	}
}

func TestTextTable(t *testing.T) {
	for _, c := range []struct {
		l    []word
		want string
	}{
		{nil, ""},
		{[]word{}, ""},
		{[]word{num("1", 0)}, "1"},
		{[]word{nam("a", 7)}, "a"},
		{[]word{sgn("+", -1)}, "+"},
		{[]word{nam("a", 0), nam("b", 0)}, "a b"},
		{[]word{num("2", 9), nam("a", 3)}, "2 a"},
		{[]word{sgn("-", 0), num("1", 1)}, "- 1"},
		{[]word{sgn("[", 0), nam("y", 0), sgn("[", 0), num("0", 0), sgn("]", 0), sgn("]", 0)}, "[ y [ 0 ] ]"},
		{[]word{{}}, ""},
		{[]word{{}, {}}, " "},
		{[]word{{}, {}, {}}, "  "},
		{[]word{{}, nam("a", 0)}, " a"},
		{[]word{nam("a", 0), {}}, "a "},
		{[]word{nam("a", 0), {}, nam("b", 0)}, "a  b"},
		{[]word{{Kind: 9, Text: "$", At: 5}}, "$"},
		{[]word{{Kind: 1, Text: "a b"}, {Kind: -1, Text: "#"}, {Text: "\n"}, {Kind: 3, Text: "\xff"}}, "a b # \n \xff"},
		{[]word{nam(" ", 0), nam(" ", 0)}, "   "},
		{[]word{num(digits(61), 0), nam(letters(13), 0)}, digits(61) + " " + letters(13)},
		{[]word{nam(letters(5000), 0)}, letters(5000)},
	} {
		checkText(t, c.l, c.want)
	}
}

func TestTextIsTheTextsWithBlanksBetween(t *testing.T) {
	pool := texts()
	for n := range 40 {
		for from := 0; from < len(pool); from += 7 {
			var l []word
			var want []string
			for i := range n {
				text := pool[(from+i*(n+1))%(len(pool)-60)]
				l = append(l, word{Kind: i - 3, Text: text, At: from})
				want = append(want, text)
			}
			checkText(t, l, strings.Join(want, " "))
		}
	}
	many := slices.Repeat([]word{num("12", 0), {}, nam("b", 0)}, 30000)
	checkText(t, many, strings.TrimSuffix(strings.Repeat("12  b ", 30000), " "))
}

// good are right words of each kind, short and as long as may be.
func good() []word {
	return []word{
		num("0", 0), num("7", 3), num("042", 0), num(digits(60), 0),
		nam("a", 0), nam("_", 0), nam("Z9", 0), nam("let", 0), nam(letters(12), 0),
		sgn("+", 0), sgn("-", 0), sgn("]", 0), sgn("=", -5), sgn(";", 0),
	}
}

// readAgain asks that words are read as they were, but for their places, which are those where Text has them.
func readAgain(t *testing.T, l []word) {
	t.Helper()
	text := lex.Text(l)
	got, fault := lex.Scan(text)
	if len(text) > maxText {
		checkRefused(t, text, maxText)
		return
	}
	if fault != (api.Fault{}) || !alike(got, l) {
		t.Fatalf("%v, written and read: %v, %v", l, got, fault)
	}
	at := 0
	for _, w := range got {
		if w.At != at {
			t.Fatalf("%v, written and read: %v stands at %d, not at %d", l, w, at, w.At)
		}
		at += len(w.Text) + 1
	}
}

func TestRightWordsAreReadAsTheyWere(t *testing.T) {
	pool := good()
	readAgain(t, nil)
	for _, a := range pool {
		readAgain(t, []word{a})
		for _, b := range pool {
			readAgain(t, []word{a, b})
			for _, c := range pool {
				readAgain(t, []word{a, b, c})
				readAgain(t, []word{a, b, c, a, c, b, b})
			}
		}
	}
	for _, text := range texts() {
		for kind := 1; kind <= 3; kind++ {
			if w := (word{Kind: kind, Text: text}); lex.Right(w) {
				readAgain(t, []word{w, w})
			}
		}
	}
}

func TestTheWordsOfATextAreThoseOfItWrittenAgain(t *testing.T) {
	long := 0
	for _, s := range mixed() {
		l, fault := lex.Scan(s)
		if fault == (api.Fault{}) {
			readAgain(t, l)
			if len(lex.Text(l)) > maxText {
				long++
			}
		}
	}
	if long == 0 {
		t.Error("no text was too long when it was written again")
	}
}

// At just as many bytes as may be words are read again, at one more they aren't.
func TestWrittenWordsUpToTheLongestText(t *testing.T) {
	for _, c := range []struct{ first, other word }{
		{nam("ab", 0), sgn("=", 0)},
		{num("42", 0), nam("c", 0)},
		{nam("Z_", 0), num("3", 0)},
		{num(digits(60), 0), sgn("(", 0)},
		{nam(letters(12), 0), num("9", 0)},
	} {
		// With one byte more in the first word the text has one byte more.
		for n := len(c.first.Text) - 1; n <= len(c.first.Text); n++ {
			first := c.first
			first.Text = first.Text[:n]
			for count := (maxText-n)/2 - 1; count <= (maxText-n)/2+1; count++ {
				l := append([]word{first}, slices.Repeat([]word{c.other}, count)...)
				if got := len(lex.Text(l)); got != n+2*count {
					t.Fatalf("%d bytes are written; want %d", got, n+2*count)
				}
				readAgain(t, l)
			}
		}
	}
	exact := append([]word{nam("ab", 0)}, slices.Repeat([]word{sgn("=", 0)}, 1999)...)
	if l, fault := lex.Scan(lex.Text(exact)); fault != (api.Fault{}) || !alike(l, exact) {
		t.Errorf("words that are written in %d bytes aren't read again", maxText)
	}
	exact[0].Text = "abc"
	checkRefused(t, lex.Text(exact), maxText)
}

// The signs of a text of as many as may be, written again, are too many bytes.
func TestWordsThatAreTooManyToBeWritten(t *testing.T) {
	for _, n := range []int{2000, 2001, maxText} {
		l, _ := lex.Scan(strings.Repeat("*", n))
		if len(l) != n {
			t.Fatalf("%d words are read; want %d", len(l), n)
		}
		readAgain(t, l)
	}
}

// lend is text as a string over bytes that the lender can write on.
func lend(text string) (string, []byte) {
	b := []byte(text)
	return unsafe.String(unsafe.SliceData(b), len(b)), b
}

// A string can't be written on, but what it stands on may be taken back when the call has answered.
func TestWhatIsHandedInIsNotKept(t *testing.T) {
	for _, s := range []string{"a", "+", "7", "let ab = 12;\n[ab*y[0], p[1]^2] # so", "a $", digits(60), letters(12), "x y", fill(maxText), letters(13)} {
		want, fault := told(s)
		lent, b := lend(s)
		got, again := lex.Scan(lent)
		if string(b) != s {
			t.Fatalf("Scan has written on %q", s)
		}
		clear(b)
		if fault != again || !same(got, want) {
			t.Fatalf("Scan(%q), written on behind the call: %v, %v; want %v, %v", s, got, again, want, fault)
		}
		w := word{Kind: 2, Text: s}
		checkRight(t, w, isRight(w))
	}
	for _, l := range [][]string{{"a"}, {"+"}, {"ab", "12"}, {"", "x", ""}, {digits(100)}, {"$", "#", "\n"}} {
		want := strings.Join(l, " ")
		var words []word
		var loans [][]byte
		for _, text := range l {
			lent, b := lend(text)
			words = append(words, word{Kind: 1, Text: lent})
			loans = append(loans, b)
		}
		got := lex.Text(words)
		for _, b := range loans {
			clear(b)
		}
		clear(words)
		if got != want {
			t.Fatalf("Text of %q, written on behind the call: %q", l, got)
		}
	}
}

// lendWords is l with spare room behind it that has words in it, too.
func lendWords(l []word) ([]word, []word) {
	room := append(slices.Clone(l), nam("spare", 1), num("9", 2), word{})
	return room[:len(l):len(room)], slices.Clone(room)
}

func TestTextLeavesItsWords(t *testing.T) {
	for _, l := range [][]word{{}, {nam("a", 3)}, {num("1", 0), {}, sgn("+", 2)}, good(), slices.Repeat(good(), 50)} {
		lent, before := lendWords(l)
		checkText(t, lent, lex.Text(slices.Clone(l)))
		if !same(lent[:cap(lent)], before) {
			t.Fatalf("Text(%v) leaves %v; want %v", l, lent[:cap(lent)], before)
		}
		// What lies behind the length isn't read either.
		for i := len(lent); i < cap(lent); i++ {
			lent[:cap(lent)][i] = sgn("*", 0)
		}
		checkText(t, lent, lex.Text(slices.Clone(l)))
	}
}

// owners are pieces of memory, each of which just one may have.
type owners struct {
	from, behind []uintptr
	who          []string
	held         []any
}

func (o *owners) claim(t *testing.T, who string, from unsafe.Pointer, size uintptr, held any) {
	t.Helper()
	if size == 0 {
		return
	}
	start := uintptr(from)
	for i := range o.from {
		if start < o.behind[i] && o.from[i] < start+size {
			t.Fatalf("%s shares memory with %s", who, o.who[i])
		}
	}
	o.from, o.behind, o.who = append(o.from, start), append(o.behind, start+size), append(o.who, who)
	// What isn't held any more could be given to another one.
	o.held = append(o.held, held)
}

func (o *owners) claimText(t *testing.T, who, s string) {
	t.Helper()
	o.claim(t, who, unsafe.Pointer(unsafe.StringData(s)), uintptr(len(s)), s)
}

// claimWords claims the spare room of l, too.
func (o *owners) claimWords(t *testing.T, who string, l []word) {
	t.Helper()
	o.claim(t, who, unsafe.Pointer(unsafe.SliceData(l)), uintptr(cap(l))*unsafe.Sizeof(word{}), l)
	for i, w := range l {
		o.claimText(t, fmt.Sprintf("word %d of %s", i, who), w.Text)
	}
}

func TestAnswersAreNewMemory(t *testing.T) {
	for _, s := range []string{"", "a", "+", "7", "+ +", "a a a", "1,1;1=1", "let a = 2*y[0];\n[a*a, a] # and", "a $", "12 " + letters(12) + "+" + digits(60)} {
		var o owners
		lent, _ := lend(s)
		o.claimText(t, "the text", lent)
		first, _ := lex.Scan(lent)
		o.claimWords(t, "what Scan answers", first)
		second, _ := lex.Scan(lent)
		o.claimWords(t, "what it answers again", second)
		o.claimText(t, "what Text answers", lex.Text(first))
		o.claimText(t, "what it answers again", lex.Text(first))
		for i := range first {
			o.claimText(t, "what Text answers of one word", lex.Text(first[i:i+1]))
		}
	}
}

// What one answer is made into is not to be seen in the next one.
func TestAnswersMayBeWrittenOn(t *testing.T) {
	for _, s := range []string{"a", "a + 1", "2*y[0] # x", fill(1000)} {
		want, _ := told(s)
		first, _ := lex.Scan(s)
		clear(first[:cap(first)])
		checkScan(t, s, want...)
		second, _ := lex.Scan(s)
		_ = append(second, nam("more", 0))
		checkScan(t, s, want...)
	}
}

// The same call tells the same, whatever was asked between.
func TestTheSameAgain(t *testing.T) {
	l := append(mixed()[:50], texts()...)
	type answer struct {
		words []word
		fault api.Fault
		right bool
		text  string
	}
	ask := func(s string) answer {
		words, fault := lex.Scan(s)
		return answer{words, fault, lex.Right(nam(s, 0)), lex.Text([]word{num(s, 0), nam(s, 1)})}
	}
	var first []answer
	for _, s := range l {
		first = append(first, ask(s))
	}
	for i := len(l) - 1; i >= 0; i-- {
		a, b := first[i], ask(l[i])
		if !same(a.words, b.words) || a.fault != b.fault || a.right != b.right || a.text != b.text {
			t.Fatalf("of %q is told %v, and again %v", l[i], a, b)
		}
	}
}

func TestExamples(t *testing.T) {
	checkScan(t, "2*y[0] # x", num("2", 0), sgn("*", 1), nam("y", 2), sgn("[", 3), num("0", 4), sgn("]", 5))
	checkRefused(t, "a$b", 1)
	checkScan(t, "2a", num("2", 0), nam("a", 1))
}
