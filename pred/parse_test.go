package pred_test

import (
	"math"
	"slices"
	"strconv"
	"strings"
	"testing"

	"grapevine/api"
	"grapevine/pred"
)

func mustParse(t *testing.T, text string) []api.Term {
	t.Helper()
	l, at, fault := pred.Parse(text)
	if fault != api.OK || at != 0 {
		t.Fatalf("Parse(%q): place %d, error %d", text, at, fault)
	}
	return l
}

// P5.2: texts and their terms.
func TestParse(t *testing.T) {
	a, b, c := is("a"), is("b"), is("c")
	and, or, not := op(api.And), op(api.Or), op(api.Not)
	for _, x := range []struct {
		text string
		want []api.Term
	}{
		{"*", list(op(api.Yes))}, {"#", list(op(api.No))}, {"a", list(a)}, {"  a  ", list(a)}, {"?a", list(has("a"))}, {"? a", list(has("a"))}, {"a-b-9", list(is("a-b-9"))}, {longName, list(is(longName))}, {"?" + longName, list(has(longName))},
		{"a<5", list(atom("a", api.Less, whole(5)))}, {"a<=5", list(atom("a", api.Most, whole(5)))}, {"a>5", list(atom("a", api.More, whole(5)))}, {"a>=5", list(atom("a", api.Least, whole(5)))}, {"a=5", list(atom("a", api.Equal, whole(5)))}, {"a!=5", list(atom("a", api.Other, whole(5)))},
		{`a<"5"`, list(atom("a", api.Less, words("5")))}, {`a<=""`, list(atom("a", api.Most, words("")))}, {`a>"x"`, list(atom("a", api.More, words("x")))}, {`a>="x"`, list(atom("a", api.Least, words("x")))}, {`a="x"`, list(atom("a", api.Equal, words("x")))}, {`a!="x"`, list(atom("a", api.Other, words("x")))},
		{"a=yes", list(atom("a", api.Equal, truth(true)))}, {"a=no", list(atom("a", api.Equal, truth(false)))}, {"a!=yes", list(atom("a", api.Other, truth(true)))}, {"a!=no", list(atom("a", api.Other, truth(false)))}, {"yes=no", list(atom("yes", api.Equal, truth(false)))}, {"yes", list(is("yes"))}, {"?no", list(has("no"))},
		{"a=(1,-2)", list(atom("a", api.Equal, point(1, -2)))}, {"a != ( -3 , 0 )", list(atom("a", api.Other, point(-3, 0)))}, {`a^"ab"`, list(atom("a", api.Begins, words("ab")))}, {"x~(1,-2)/3", list(near("x", point(1, -2), 3))}, {" x ~ ( 1 , -2 ) / 3 ", list(near("x", point(1, -2), 3))},
		{"a<-5", list(atom("a", api.Less, whole(-5)))}, {"a=0", list(atom("a", api.Equal, whole(0)))}, {"a=-1", list(atom("a", api.Equal, whole(-1)))}, {"a=10", list(atom("a", api.Equal, whole(10)))}, {"a=9223372036854775807", list(atom("a", api.Equal, whole(math.MaxInt64)))}, {"a=-9223372036854775808", list(atom("a", api.Equal, whole(math.MinInt64)))},
		{"a~(-1048576,1048576)/1048576", list(near("a", point(-1<<20, 1<<20), 1<<20))}, {"a~(0,0)/0", list(near("a", point(0, 0), 0))},
		{`a=" !~'"`, list(atom("a", api.Equal, words(" !~'")))}, {`a="\"\\\x00\xff\x0a\xaf"`, list(atom("a", api.Equal, words("\"\\\x00\xff\x0a\xaf")))}, {`a="\x61\x22x"`, list(atom("a", api.Equal, words("a\"x")))}, {`a="` + long(200) + `"`, list(atom("a", api.Equal, words(long(200))))}, {`a="\\x00"`, list(atom("a", api.Equal, words(`\x00`)))},
		{`a="b & c | (!"`, list(atom("a", api.Equal, words("b & c | (!")))}, {`a="" & b=""`, list(atom("a", api.Equal, words("")), atom("b", api.Equal, words("")), and)},
		{"!a", list(a, not)}, {"!!a", list(a, not, not)}, {"! ! a", list(a, not, not)}, {"!a=5", list(atom("a", api.Equal, whole(5)), not)}, {"!?a", list(has("a"), not)}, {"!(a)", list(a, not)}, {"!*", list(op(api.Yes), not)}, {"!a & b", list(a, not, b, and)}, {"!(a&b)", list(a, b, and, not)}, {"!(a|b)", list(a, b, or, not)},
		{"a&b", list(a, b, and)}, {"a|b", list(a, b, or)}, {"a&b&c", list(a, b, and, c, and)}, {"a|b|c", list(a, b, or, c, or)}, {"a&(b&c)", list(a, b, c, and, and)}, {"a|(b|c)", list(a, b, c, or, or)}, {"a|b&c", list(a, b, c, and, or)}, {"a&b|c", list(a, b, and, c, or)}, {"(a|b)&c", list(a, b, or, c, and)}, {"a & ( b | c )", list(a, b, c, or, and)},
		{"a | (b & c)", list(a, b, c, and, or)}, {"((a))", list(a)}, {" a<5&!?b ", list(atom("a", api.Less, whole(5)), has("b"), not, and)}, {"a&!b&c|!a|#", list(a, b, not, and, c, and, a, not, or, op(api.No), or)},
		{"a!=5&!b", list(atom("a", api.Other, whole(5)), b, not, and)}, {"a=yes&b=no", list(atom("a", api.Equal, truth(true)), atom("b", api.Equal, truth(false)), and)}, {strings.Repeat("(", 149) + "a" + strings.Repeat(")", 149), list(a)}, {strings.Repeat(" ", 299) + "a", list(a)},
	} {
		if l := mustParse(t, x.text); !slices.Equal(l, x.want) {
			t.Fatalf("Parse(%q): %v, wanted %v", x.text, l, x.want)
		}
	}
}

// mistakes are texts, the place of the first fault, and its error.
func mistakes() []struct {
	text string
	at   int
	want api.Errno
} {
	great := "9223372036854775808"
	longer := longName + "q"
	return []struct {
		text string
		at   int
		want api.Errno
	}{
		// The text ends too early.
		{"", 0, api.ErrForm}, {"   ", 3, api.ErrForm}, {"a<", 2, api.ErrForm}, {"a<  ", 4, api.ErrForm}, {"(a", 2, api.ErrForm}, {"(a ", 3, api.ErrForm}, {"a&", 2, api.ErrForm}, {"a|", 2, api.ErrForm}, {"!", 1, api.ErrForm}, {"?", 1, api.ErrForm}, {"(", 1, api.ErrForm}, {"a=", 2, api.ErrForm}, {"a!=", 3, api.ErrForm}, {"a^", 2, api.ErrForm}, {"a~", 2, api.ErrForm},
		{"a~(", 3, api.ErrForm}, {"a~(1", 4, api.ErrForm}, {"a~(1,", 5, api.ErrForm}, {"a~(1,2", 6, api.ErrForm}, {"a~(1,2)", 7, api.ErrForm}, {"a~(1,2)/", 8, api.ErrForm}, {"a=(1,2", 6, api.ErrForm},
		// No word stands there.
		{"@", 0, api.ErrForm}, {"a @", 2, api.ErrForm}, {"A", 0, api.ErrForm}, {"aB", 1, api.ErrForm}, {"a\t", 1, api.ErrForm}, {"a\n", 1, api.ErrForm}, {"a<5 \x00", 4, api.ErrForm}, {"a<-", 2, api.ErrForm}, {"a<- 5", 2, api.ErrForm}, {"a<--5", 2, api.ErrForm}, {"-a", 0, api.ErrForm}, {"a<+5", 2, api.ErrForm}, {"a_b", 1, api.ErrForm}, {"\xff", 0, api.ErrForm}, {"a<5.0", 3, api.ErrForm}, {"a & \\", 4, api.ErrForm}, {"ä", 0, api.ErrForm},
		// Strings that do not end, or have what they may not have.
		{`a="x`, 2, api.ErrForm}, {`a="`, 2, api.ErrForm}, {`a="\"`, 2, api.ErrForm}, {`a="x\`, 2, api.ErrForm}, {`a="\x0"`, 2, api.ErrForm}, {`a="\x0`, 2, api.ErrForm}, {`a="\xAA"`, 2, api.ErrForm}, {`a="\x0g"`, 2, api.ErrForm}, {`a="\xg0"`, 2, api.ErrForm}, {`a="\n"`, 2, api.ErrForm}, {`a="\X00"`, 2, api.ErrForm}, {"a=\"\x1f\"", 2, api.ErrForm}, {"a=\"\x7f\"", 2, api.ErrForm}, {"a=\"\xc3\xa4\"", 2, api.ErrForm}, {"a= \"x\ty\"", 3, api.ErrForm}, {`a="x" & b<"`, 10, api.ErrForm},
		{`"x`, 0, api.ErrForm}, {`a="` + long(201), 2, api.ErrForm}, {`a="` + long(201) + "\x00\"", 2, api.ErrForm},
		// Numbers of which there is another way.
		{"a<05", 2, api.ErrForm}, {"a<00", 2, api.ErrForm}, {"a<-0", 2, api.ErrForm}, {"a<-05", 2, api.ErrForm}, {"a=(00,1)", 3, api.ErrForm}, {"a=(1,-0)", 5, api.ErrForm}, {"a~(1,1)/01", 8, api.ErrForm}, {"a~(1,1)/-0", 8, api.ErrForm}, {"a<0" + great, 2, api.ErrForm}, {"a<-00", 2, api.ErrForm},
		// Words that do not go on.
		{"a b", 2, api.ErrForm}, {"a)", 1, api.ErrForm}, {"()", 1, api.ErrForm}, {")", 0, api.ErrForm}, {"(a))", 3, api.ErrForm}, {"&a", 0, api.ErrForm}, {"|", 0, api.ErrForm}, {"a&&b", 2, api.ErrForm}, {"a||b", 2, api.ErrForm}, {"a&|b", 2, api.ErrForm}, {"a!b", 1, api.ErrForm}, {"a !b", 2, api.ErrForm}, {"!=a", 0, api.ErrForm}, {"a ! = 5", 2, api.ErrForm}, {"a< =5", 3, api.ErrForm}, {"a<>5", 2, api.ErrForm}, {"a==5", 2, api.ErrForm}, {"a=<5", 2, api.ErrForm}, {"a<<5", 2, api.ErrForm}, {"a<=>5", 3, api.ErrForm},
		{"5", 0, api.ErrForm}, {`"x"`, 0, api.ErrForm}, {"5<a", 0, api.ErrForm}, {"a=b", 2, api.ErrForm}, {"a=yess", 2, api.ErrForm}, {"a=yes-", 2, api.ErrForm}, {"a=*", 2, api.ErrForm}, {"a=?b", 2, api.ErrForm}, {"a<yes", 2, api.ErrForm}, {"a<=no", 3, api.ErrForm}, {"a<(1,2)", 2, api.ErrForm}, {"a>=(1,2)", 3, api.ErrForm}, {"a^5", 2, api.ErrForm}, {"a^b", 2, api.ErrForm}, {"a^yes", 2, api.ErrForm}, {"a^(1,2)", 2, api.ErrForm},
		{"a~5", 2, api.ErrForm}, {`a~"x"`, 2, api.ErrForm}, {"p~(0,0)5", 7, api.ErrForm}, {"p~(0,0)&a", 7, api.ErrForm}, {"p~(0 0)/5", 5, api.ErrForm}, {"p~(0,0,0)/5", 6, api.ErrForm}, {`p~(0,"x")/5`, 5, api.ErrForm}, {"p~(x,0)/5", 3, api.ErrForm}, {"p~(0,0)/x", 8, api.ErrForm}, {"p~(0,0)/(1,1)", 8, api.ErrForm}, {"a=(1,2)/3", 7, api.ErrForm}, {"a=((1,2))", 3, api.ErrForm},
		{"?5", 1, api.ErrForm}, {"??a", 1, api.ErrForm}, {"?(a)", 1, api.ErrForm}, {"?!a", 1, api.ErrForm}, {"?a=5", 2, api.ErrForm}, {"?a b", 3, api.ErrForm}, {"*a", 1, api.ErrForm}, {"**", 1, api.ErrForm}, {"#*", 1, api.ErrForm}, {"*=5", 1, api.ErrForm}, {"(a)b", 3, api.ErrForm}, {"(a)=5", 3, api.ErrForm}, {"(a)(b)", 3, api.ErrForm}, {"a<5b", 3, api.ErrForm}, {"a<5-3", 3, api.ErrForm}, {"a -5", 2, api.ErrForm}, {"a,b", 1, api.ErrForm}, {"a/b", 1, api.ErrForm}, {"a<5<6", 3, api.ErrForm}, {"a=yes=no", 5, api.ErrForm}, {"(a,b)", 2, api.ErrForm}, {`a="x""y"`, 5, api.ErrForm},
		// Past limits.
		{"a=" + great, 2, api.ErrLimit}, {"a=-9223372036854775809", 2, api.ErrLimit}, {"a<" + strings.Repeat("9", 200), 2, api.ErrLimit}, {"a=(1048577,0)", 3, api.ErrLimit}, {"a=(-1048577,0)", 3, api.ErrLimit}, {"a=(0,1048577)", 5, api.ErrLimit}, {"a~(0,-1048577)/1", 5, api.ErrLimit}, {"a~(" + great + ",0)/1", 3, api.ErrLimit},
		{"a~(0,0)/1048577", 8, api.ErrLimit}, {"a~(0,0)/-1", 8, api.ErrLimit}, {"a~(0,0)/" + great, 8, api.ErrLimit}, {"a~(0,0)/-" + great, 8, api.ErrLimit}, {`a="` + long(201) + `"`, 2, api.ErrLimit}, {`a^"` + long(201) + `"`, 2, api.ErrLimit}, {`b & a<"` + long(199) + `\x00\""`, 6, api.ErrLimit},
		{longer, 0, api.ErrName}, {"?" + longer, 1, api.ErrName}, {"! " + longer + "=5", 2, api.ErrName}, {"a & " + longer, 4, api.ErrName}, {long(300), 0, api.ErrName},
		// The first fault from the left.
		{longer + " @", 0, api.ErrName}, {"a=" + great + "@", 2, api.ErrLimit}, {"a=(1048577 @", 3, api.ErrLimit}, {"a~(0,0)/-1 05", 8, api.ErrLimit}, {"@" + longer, 0, api.ErrForm}, {"a b " + longer, 2, api.ErrForm}, {"(" + longer, 1, api.ErrName}, {"a<05 & " + longer, 2, api.ErrForm}, {`a="` + long(201) + `" b`, 2, api.ErrLimit},
		// At one word ErrForm is named ahead of the others.
		{"a " + great, 2, api.ErrForm}, {great, 0, api.ErrForm}, {"a^" + great, 2, api.ErrForm}, {"a~" + great, 2, api.ErrForm}, {`"` + long(201) + `"`, 0, api.ErrForm}, {`a~(1,"` + long(201) + `")`, 5, api.ErrForm}, {"a " + longer, 2, api.ErrForm}, {"a=" + longer, 2, api.ErrForm}, {"a<" + longer, 2, api.ErrForm}, {"a~(0,0)/" + longer, 8, api.ErrForm},
	}
}

// P5.2: the first fault, its place and its error.
func TestParseFaults(t *testing.T) {
	for _, c := range mistakes() {
		l, at, fault := pred.Parse(c.text)
		if at != c.at || fault != c.want || len(l) != 0 {
			t.Fatalf("Parse(%q): %v, place %d, error %d, wanted place %d, error %d", c.text, l, at, fault, c.at, c.want)
		}
	}
}

// P5.2: which bytes names, strings and their \x have.
func TestParseBytes(t *testing.T) {
	for c := range 256 {
		s := string([]byte{byte(c)})
		letter, digit := c >= 'a' && c <= 'z', c >= '0' && c <= '9'
		wantParsed(t, "?"+s, letter, has(s))
		wantParsed(t, "?a"+s, letter || digit || c == '-' || c == ' ', has(strings.TrimSpace("a"+s)))
		wantParsed(t, `a="`+s+`x"`, c >= 32 && c <= 126 && c != '"' && c != '\\', atom("a", api.Equal, words(s+"x")))
		wantParsed(t, `a="\`+s+`"`, c == '"' || c == '\\', atom("a", api.Equal, words(s)))
		hex := digit || c >= 'a' && c <= 'f'
		n, _ := strconv.ParseUint("4"+s, 16, 8)
		wantParsed(t, `a="\x4`+s+`"`, hex, atom("a", api.Equal, words(string([]byte{byte(n)}))))
		n, _ = strconv.ParseUint(s+"4", 16, 8)
		wantParsed(t, `a="\x`+s+`4"`, hex, atom("a", api.Equal, words(string([]byte{byte(n)}))))
		n, _ = strconv.ParseUint("1"+s, 10, 8)
		wantParsed(t, "a=1"+s, digit || c == ' ', atom("a", api.Equal, whole(int64(max(n, 1)))))
	}
}

// wantParsed wants a text to be an atom, or to be refused.
func wantParsed(t *testing.T, text string, right bool, want api.Term) {
	t.Helper()
	l, at, fault := pred.Parse(text)
	if right && (fault != api.OK || !slices.Equal(l, list(want))) || !right && (fault != api.ErrForm || len(l) != 0) {
		t.Fatalf("Parse(%q): %v, place %d, error %d", text, l, at, fault)
	}
}

// P5.2: texts, terms and stacks about as many as may be.
func TestParseLimits(t *testing.T) {
	deep := func(n int) string { return strings.Repeat("*&(", n-1) + "*" + strings.Repeat(")", n-1) }
	for _, c := range []struct {
		text string
		at   int
		want api.Errno
	}{
		{strings.Repeat(" ", 300), 300, api.ErrForm}, {strings.Repeat(" ", 301), 0, api.ErrLimit}, {long(301), 0, api.ErrLimit}, {"@" + long(300), 0, api.ErrLimit}, {"a" + strings.Repeat(" ", 299), 0, api.OK}, {"a" + strings.Repeat(" ", 300), 0, api.ErrLimit},
		{strings.Repeat("a|", 23) + "a", 0, api.OK}, {strings.Repeat("a|", 24) + "a", 49, api.ErrLimit}, {strings.Repeat("a|", 24) + "a  ", 51, api.ErrLimit}, {strings.Repeat("!", 47) + "a", 0, api.OK}, {strings.Repeat("!", 48) + "a", 49, api.ErrLimit}, {strings.Repeat("!", 299) + "a", 300, api.ErrLimit},
		{deep(16), 0, api.OK}, {deep(17), len(deep(17)), api.ErrLimit}, {deep(17) + ")", len(deep(17)), api.ErrForm}, {strings.Repeat("a|", 24) + "05", 48, api.ErrForm}, {strings.Repeat("(", 300), 300, api.ErrForm}, {strings.Repeat("!", 300), 300, api.ErrForm},
	} {
		l, at, fault := pred.Parse(c.text)
		if at != c.at || fault != c.want || (len(l) == 0) != (fault != api.OK) {
			t.Fatalf("Parse(%q): %d terms, place %d, error %d, wanted place %d, error %d", c.text, len(l), at, fault, c.at, c.want)
		}
	}
}

// P5.2: what stands ahead of the first fault goes on, if a right word comes: cut there, the text ends too early, or is right.
func TestParseAheadOfFaults(t *testing.T) {
	seen := 0
	for _, c := range mistakes() {
		_, at, fault := pred.Parse(c.text[:c.at])
		if fault != api.OK && (fault != api.ErrForm || at != c.at) {
			t.Fatalf("Parse(%q): place %d, error %d", c.text[:c.at], at, fault)
		}
		seen++
	}
	d := dice(7)
	for range 20000 {
		text := d.text()
		_, at, fault := pred.Parse(text)
		if fault == api.OK {
			continue
		}
		if at < 0 || at > len(text) {
			t.Fatalf("Parse(%q): place %d", text, at)
		}
		if _, to, cut := pred.Parse(text[:at]); cut != api.OK && to != at {
			t.Fatalf("Parse(%q): place %d; cut there: place %d, error %d", text, at, to, cut)
		}
		seen++
	}
	if seen < 10000 {
		t.Fatalf("%d faults alone", seen)
	}
}

// dice are numbers that look like chance, the same ones each time.
type dice uint64

// roll is a number from 0 to n - 1.
func (d *dice) roll(n int) int {
	*d = *d*6364136223846793005 + 1442695040888963407
	return int(uint64(*d)>>33) % n
}

// text is some words one behind the other, most of them no predicate.
func (d *dice) text() string {
	all := []string{"(", ")", ",", "/", "&", "|", "!", "?", "*", "#", "=", "<", ">", "^", "~", "!=", "<=", ">=", "a", "b2", "yes", "no", "5", "-7", "0", "12", `"x"`, `"\x00"`, "(1,2)", "~(1,2)/3", "a=5", "b", " ", " ", "&", "|", "a", "05", "@", `"`, longName + "q", "9999999999999999999"}
	var text strings.Builder
	for range d.roll(12) {
		text.WriteString(all[d.roll(len(all))])
	}
	return text.String()
}

func (d *dice) atom() api.Term {
	name := []string{"a", "b", "c-1", "yes", longName}[d.roll(5)]
	number := whole([]int64{0, 1, -1, 10, 4096, math.MinInt64, math.MaxInt64}[d.roll(7)])
	text := words([]string{"", "a", "ab", "\xff", "a\x00", "\"", "\\x00", " ~"}[d.roll(8)])
	place := point(d.roll(5)-2, (d.roll(3)-1)<<20)
	ordered := []api.Value{number, text}[d.roll(2)]
	switch cmp := api.Has + api.Cmp(d.roll(10)); cmp {
	case api.Has, api.Is:
		return atom(name, cmp, api.Value{})
	case api.Equal, api.Other:
		return atom(name, cmp, []api.Value{number, text, truth(true), truth(false), place}[d.roll(5)])
	case api.Begins:
		return atom(name, cmp, text)
	case api.Near:
		return near(name, place, []int{0, 1, 7, 1 << 20}[d.roll(4)])
	default:
		return atom(name, cmp, ordered)
	}
}

// terms is a right predicate, as far as it has not too many terms.
func (d *dice) terms(depth int) []api.Term {
	if depth == 0 || d.roll(4) == 0 {
		return list([]api.Term{op(api.Yes), op(api.No), d.atom(), d.atom(), d.atom()}[d.roll(5)])
	}
	l := d.terms(depth - 1)
	switch join := []api.Op{api.Not, api.And, api.Or}[d.roll(3)]; join {
	case api.Not:
		return append(l, op(join))
	default:
		return append(append(l, d.terms(depth-1)...), op(join))
	}
}

// P5.5: Parse of Print is the terms, whatever they are, and no text with fewer ( ) is.
func TestParseOfPrint(t *testing.T) {
	all := rights()
	d := dice(3)
	for range 3000 {
		all = append(all, d.terms(4))
	}
	printed := 0
	for _, l := range all {
		text, fault := pred.Print(l)
		if fault != api.OK {
			continue
		}
		printed++
		if got := mustParse(t, text); !slices.Equal(got, l) {
			t.Fatalf("Print(%v) is %q, which is %v", l, text, got)
		}
		for _, fewer := range withoutPair(text) {
			if got, _, fault := pred.Parse(fewer); fault == api.OK && slices.Equal(got, l) {
				t.Fatalf("Print(%v) is %q, but %q would do", l, text, fewer)
			}
		}
	}
	if printed < 2000 {
		t.Fatalf("%d texts alone", printed)
	}
}

// withoutPair is a text without one pair of ( ), for each of them; what a string has is left as it is in these tests.
func withoutPair(text string) []string {
	var out []string
	var open []int
	for i := range len(text) {
		switch text[i] {
		case '(':
			open = append(open, i)
		case ')':
			from := open[len(open)-1]
			open = open[:len(open)-1]
			out = append(out, text[:from]+text[from+1:i]+text[i+1:])
		}
	}
	return out
}

// P5.5: Print of Parse is parsed to the same; blanks between words play no part.
func TestPrintOfParse(t *testing.T) {
	texts := []string{"a | (b & c)", "((a))&((b|c))", "!( !( a ) )", `x=" ( "|y!="\x41"`, "a~(1,-2)/3&b=(0,0)&c>=-5|d<=7|!e|?f&g=yes&h!=no&i^\"\"", "a&(b&(c&(d|e)))"}
	d := dice(5)
	for range 40000 {
		texts = append(texts, d.text())
	}
	right := 0
	for _, text := range texts {
		l, _, fault := pred.Parse(text)
		if fault != api.OK {
			continue
		}
		right++
		printed, fault := pred.Print(l)
		if fault != api.OK || !slices.Equal(mustParse(t, printed), l) {
			t.Fatalf("Print of %q is %q, error %d", text, printed, fault)
		}
		if again, _ := pred.Print(mustParse(t, printed)); again != printed {
			t.Fatalf("Print of %q is %q", printed, again)
		}
		if tight := unblank(printed); !slices.Equal(mustParse(t, tight), l) {
			t.Fatalf("%q and %q differ", tight, printed)
		}
	}
	if right < 500 {
		t.Fatalf("%d right texts alone", right)
	}
	if text, _ := pred.Print(mustParse(t, "a | (b & c)")); text != "a | b & c" {
		t.Fatalf("the example is %q", text)
	}
}

// unblank is a text without the blanks that are not in strings.
func unblank(text string) string {
	var out []byte
	within := false
	for i := range len(text) {
		if text[i] == '"' && (i == 0 || text[i-1] != '\\') {
			within = !within
		}
		if within || text[i] != ' ' {
			out = append(out, text[i])
		}
	}
	return string(out)
}

// P1, P5.2: each text of three bytes behind a few beginnings is parsed or refused.
func TestParseEnds(t *testing.T) {
	bytes := "a0-5 \"\\x!=<(,)/&|?~^*#@\x00\xff"
	for _, head := range []string{"", "a", "a<", `a="`, `a="\`, `a="\x`, "a~(", "a~(1,2)/", "("} {
		for i := range len(bytes) {
			for j := range len(bytes) {
				for k := range len(bytes) {
					text := head + bytes[i:i+1] + bytes[j:j+1] + bytes[k:k+1]
					l, at, fault := pred.Parse(text)
					if (fault == api.OK) != (len(l) > 0) || at < 0 || at > len(text) || fault == api.OK && (at != 0 || pred.Check(l) != api.OK) {
						t.Fatalf("Parse(%q): %v, place %d, error %d", text, l, at, fault)
					}
				}
			}
		}
	}
}
