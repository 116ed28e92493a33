package tests

import (
	"fmt"
	"math"
	"regexp"
	"slices"
	"strings"
	"testing"

	"loop.example/g00770/impl"
)

func num(n int64) impl.Value {
	return impl.Value{Kind: impl.VlNum, N: n}
}

func letters(t string) impl.Value {
	return impl.Value{Kind: impl.VlText, Text: t}
}

func tells(v impl.Value) impl.Expr {
	return impl.Expr{Kind: impl.ExValue, Value: v}
}

func sum(args ...impl.Expr) impl.Expr {
	return impl.Expr{Kind: impl.ExSum, Args: args}
}

func ref(a impl.Addr, prop string) impl.Expr {
	return impl.Expr{Kind: impl.ExRef, Addr: a, Prop: prop}
}

var (
	index = impl.Expr{Kind: impl.ExIndex}
	key   = impl.Expr{Kind: impl.ExKey}
	diskA = impl.Addr{Type: "disk", Name: "a"}
	diskB = impl.Addr{Path: []string{"m", "n"}, Type: "disk", Name: "b", Kind: 1, N: 10}
)

// rightValues are right values, each with its text: the ends of what is right, and all about them.
var rightValues = []struct {
	value impl.Value
	text  string
}{
	{num(-1000000), "-1000000"},
	{num(-999999), "-999999"},
	{num(-10), "-10"},
	{num(-9), "-9"},
	{num(-1), "-1"},
	{num(0), "0"},
	{num(1), "1"},
	{num(9), "9"},
	{num(10), "10"},
	{num(100), "100"},
	{num(999999), "999999"},
	{num(1000000), "1000000"},
	{letters(""), `""`},
	{letters("a"), `"a"`},
	{letters("z"), `"z"`},
	{letters("0"), `"0"`},
	{letters("9"), `"9"`},
	{letters("007"), `"007"`},
	{letters("1a"), `"1a"`},
	{letters(word8), `"abcdefgh"`},
	{letters("01234567"), `"01234567"`},
	{letters("az09zzzz"), `"az09zzzz"`},
}

// wrongValues differ from a right value in one thing each.
var wrongValues = []impl.Value{
	{},
	num(-1000001),
	num(1000001),
	num(math.MinInt64),
	num(math.MaxInt64),
	{Kind: impl.VlNum, Text: "a"},
	{Kind: impl.VlNum, N: 5, Text: "5"},
	{Kind: impl.VlText, N: 1},
	{Kind: impl.VlText, N: 1, Text: "a"},
	{Kind: impl.VlText, N: -1, Text: "a"},
	letters(word9),
	letters("012345678"),
	letters("A"),
	letters("a-b"),
	letters("a b"),
	letters(`"`),
	letters(`a"`),
	letters("\xe9"),
	letters("\xc3\xa9"),
	letters("\x00"),
	letters(strings.Repeat("a", impl.MaxBytes)),
	letters(strings.Repeat("a", impl.MaxBytes+1)),
	{Kind: -1},
	{Kind: 0, N: 1},
	{Kind: 0, Text: "a"},
	{Kind: 3},
	{Kind: 3, N: 1},
	{Kind: 3, Text: "a"},
	{Kind: math.MinInt64},
	{Kind: math.MaxInt64},
	{Kind: 1<<32 + 1},
}

const (
	valueForm = `0|-?[1-9][0-9]{0,5}|-?1000000|"[a-z0-9]{0,8}"`
	refForm   = `@([a-z]{1,8}/){0,2}[a-z]{1,8}\.[a-z]{1,8}(\[([0-9]|[1-9][0-9]|[a-z]{1,8})\])?:[a-z]{1,8}`
	leafForm  = `(` + valueForm + `|` + refForm + `|#|\$)`
)

// The texts of values and expressions, told in another way than the program reads them.
var (
	valueShape = regexp.MustCompile(`^(` + valueForm + `)$`)
	exprShape  = regexp.MustCompile(`^` + deepForm(4) + `$`)
)

func deepForm(depth int) string {
	if depth == 1 {
		return leafForm
	}
	part := deepForm(depth - 1)
	return `(` + leafForm + `|\(` + part + ` \+ ` + part + `\))`
}

// plainExpr makes none of each empty list, as both are the same.
func plainExpr(e impl.Expr) impl.Expr {
	e.Addr = plain(impl.AddrOut{Addr: e.Addr}).Addr
	var args []impl.Expr
	for _, a := range e.Args {
		args = append(args, plainExpr(a))
	}
	e.Args = args
	return e
}

func wantExpr(t *testing.T, what string, got impl.ExprOut, want impl.ExprOut) {
	t.Helper()
	got.Expr, want.Expr = plainExpr(got.Expr), plainExpr(want.Expr)
	if told(got) != told(want) {
		t.Errorf("%.80s: got %+v, want %+v", what, got, want)
	}
}

func wantValue(t *testing.T, what string, got impl.ValueOut, want impl.ValueOut) {
	t.Helper()
	if got != want {
		t.Errorf("%.80s: got %+v, want %+v", what, got, want)
	}
}

func readExpr(t *testing.T, text string) impl.Expr {
	t.Helper()
	out := impl.ExprRead(text)
	if out.Code != impl.OK {
		t.Fatalf("ExprRead(%q): code %d", text, out.Code)
	}
	return out.Expr
}

func TestKinds(t *testing.T) {
	if impl.VlNum != 1 || impl.VlText != 2 {
		t.Error("a kind of a value is another number")
	}
	kinds := []int64{impl.ExValue, impl.ExRef, impl.ExIndex, impl.ExKey, impl.ExSum}
	if !slices.Equal(kinds, []int64{1, 2, 3, 4, 5}) {
		t.Errorf("the kinds of an expression are %v", kinds)
	}
}

// Promise 4: the text of a right value is just this, and it comes back from it.
func TestValuesComeBack(t *testing.T) {
	for _, c := range rightValues {
		if !impl.ValueRight(c.value) {
			t.Errorf("not right: %+v", c.value)
		}
		if got := impl.ValueText(c.value); got != c.text {
			t.Errorf("ValueText(%+v): got %q, want %q", c.value, got, c.text)
		}
		wantValue(t, "ValueRead of "+c.text, impl.ValueRead(c.text), impl.ValueOut{Value: c.value})
	}
}

// Promise 4, of all small numbers and of those about each end.
func TestNumberValuesComeBack(t *testing.T) {
	for _, middle := range []int64{-1000000, -100000, 0, 100000, 1000000} {
		for n := middle - 1200; n <= middle+1200; n++ {
			text, want := fmt.Sprint(n), impl.ValueOut{Value: num(n)}
			if n < -1000000 || n > 1000000 {
				want = impl.ValueOut{Code: impl.ErrSyntax}
			} else if got := impl.ValueText(num(n)); got != text {
				t.Errorf("ValueText of %s: %q", text, got)
			}
			wantValue(t, "ValueRead of "+text, impl.ValueRead(text), want)
		}
	}
}

// Each byte by itself, and at each place of a text.
func TestValueTextBytes(t *testing.T) {
	for b := range 256 {
		want := b >= 'a' && b <= 'z' || b >= '0' && b <= '9'
		for i := range len(word8) {
			whole := word8[:i] + string([]byte{byte(b)}) + word8[i+1:]
			for _, s := range []string{whole, whole[:i+1], whole[i : i+1]} {
				if got := impl.ValueRight(letters(s)); got != want {
					t.Errorf("ValueRight of the text %q: %v", s, got)
				}
			}
		}
	}
}

func TestWrongValues(t *testing.T) {
	for i, v := range wrongValues {
		if impl.ValueRight(v) {
			t.Errorf("%d: right: %+v", i, v)
		}
		if got := impl.ValueText(v); got != "" {
			t.Errorf("%d: ValueText: %.40q", i, got)
		}
		if impl.ExprRight(tells(v)) || impl.ExprText(tells(v)) != "" {
			t.Errorf("%d: right as an expression", i)
		}
		for _, r := range []impl.Value{num(1), letters("a"), v} {
			wantValue(t, "Sum of a wrong one", impl.Sum(v, r), impl.ValueOut{Code: impl.ErrForm})
			wantValue(t, "Sum of a wrong one", impl.Sum(r, v), impl.ValueOut{Code: impl.ErrForm})
		}
	}
}

// A kind names one field: what stands in the other one makes it wrong.
func TestValuesOfAllFields(t *testing.T) {
	for kind := int64(-1); kind <= 4; kind++ {
		for _, n := range []int64{math.MinInt64, -1000001, -1000000, -1, 0, 1, 1000000, 1000001, math.MaxInt64} {
			for _, s := range []string{"", "a", "0", word8, word9, "A", "-"} {
				want := ""
				if kind == 1 && s == "" {
					want = fmt.Sprint(n)
				}
				if kind == 2 && n == 0 {
					want = `"` + s + `"`
				}
				if !valueShape.MatchString(want) {
					want = ""
				}
				v := impl.Value{Kind: kind, N: n, Text: s}
				if impl.ValueRight(v) != (want != "") || impl.ValueText(v) != want {
					t.Errorf("%+v: right %v, text %q, want %q", v, impl.ValueRight(v), impl.ValueText(v), want)
				}
			}
		}
	}
}

func TestValueTextsThatAreNone(t *testing.T) {
	texts := []string{"", "-", "+", "--1", "-0", "+0", "00", "-00", "01", "-01", "007", "0000001", "+1", "+-1", "-+1", "1-", "1+", " 1", "1 ", "- 1", "1\n", "1.0", "1.",
		".1", "1e3", "0x1", "0b1", "1_0", "1,0", "-1000001", "1000001", "-1000010", "10000000", "9223372036854775807", "-9223372036854775808", "9223372036854775808",
		"18446744073709551616", "18446744073709551617", "-18446744073709551615", "a", "abc", "#", "$", "@disk.a:b", "(1 + 1)", `"`, `"a`, `a"`, `"""`, `""""`, `"a""`, `""a"`,
		`"a"b`, `"a"b"`, `"a" `, ` "a"`, `"a"1`, `1"a"`, `" "`, `"a b"`, `"A"`, `"-1"`, `"a_b"`, `"\"`, `'a'`, "`a`", `"abcdefghi"`, `"012345678"`, "\"\x00\"", "\"\xe9\"",
		"\"\xc3\xa9\"", "\"a\n\"", "\"a\"\n", "\x00", "\xff", "1\x00", "\u0661", "\u2212" + "1"}
	for _, s := range texts {
		wantValue(t, fmt.Sprintf("ValueRead(%q)", s), impl.ValueRead(s), impl.ValueOut{Code: impl.ErrSyntax})
		if s == "#" || s == "$" || s == "@disk.a:b" || s == "(1 + 1)" {
			continue
		}
		wantExpr(t, fmt.Sprintf("ExprRead(%q)", s), impl.ExprRead(s), impl.ExprOut{Code: impl.ErrSyntax})
	}
}

// Each text with a byte turned, put in or taken out is read just where it has the right shape, and comes back.
func TestTurnedValueTexts(t *testing.T) {
	for _, s := range []string{"0", "-1", "10", "-1000000", "1000000", "999999", `""`, `"a"`, `"0a"`, `"abcdefgh"`} {
		checkTurned(t, s, eachByte(), checkValueShape)
	}
}

// All texts of a few bytes that stand in values.
func TestShortValueTexts(t *testing.T) {
	checkShort(t, strings.Split(`"-+019a `, ""), 5, checkValueShape)
}

func checkValueShape(t *testing.T, s string) {
	t.Helper()
	out := impl.ValueRead(s)
	if !valueShape.MatchString(s) {
		wantValue(t, fmt.Sprintf("ValueRead(%q)", s), out, impl.ValueOut{Code: impl.ErrSyntax})
		return
	}
	if out.Code != impl.OK || !impl.ValueRight(out.Value) || impl.ValueText(out.Value) != s {
		t.Errorf("ValueRead(%q): %+v", s, out)
	}
}

// The limit of what is handed in is looked for ahead of all else.
func TestValueAndExprReadSize(t *testing.T) {
	for _, part := range []string{"0", "1", "-", `"`, `"a`, "a", " ", "(", "((1 + ", "(1 + 1)", ")", "#", "$", "@", "@disk.a:b", "/", ":", "\x00"} {
		full := strings.Repeat(part, impl.MaxBytes)[:impl.MaxBytes]
		wantValue(t, "the longest text of "+part, impl.ValueRead(full), impl.ValueOut{Code: impl.ErrSyntax})
		wantValue(t, "a text too long of "+part, impl.ValueRead(full+"1"), impl.ValueOut{Code: impl.ErrSize})
		wantExpr(t, "the longest text of "+part, impl.ExprRead(full), impl.ExprOut{Code: impl.ErrSyntax})
		wantExpr(t, "a text too long of "+part, impl.ExprRead(full+"1"), impl.ExprOut{Code: impl.ErrSize})
	}
	for _, right := range []string{"1", `"a"`, "#", "@disk.a:b", "(1 + 1)"} {
		long := right + strings.Repeat(" ", impl.MaxBytes-len(right))
		wantExpr(t, "with blanks to the limit", impl.ExprRead(long), impl.ExprOut{Code: impl.ErrSyntax})
		wantExpr(t, "with blanks above it", impl.ExprRead(long+" "), impl.ExprOut{Code: impl.ErrSize})
	}
}

func TestSum(t *testing.T) {
	rows := [][3]int64{{0, 0, 0}, {2, 3, 5}, {-2, 3, 1}, {-2, -3, -5}, {999999, 1, 1000000}, {1000000, 0, 1000000}, {-999999, -1, -1000000}, {-1000000, 0, -1000000},
		{1000000, -1000000, 0}, {500000, 500000, 1000000}, {-500000, -500000, -1000000}, {1000000, -1, 999999}}
	for _, r := range rows {
		want := impl.ValueOut{Value: num(r[2])}
		wantValue(t, fmt.Sprintf("Sum of %d and %d", r[0], r[1]), impl.Sum(num(r[0]), num(r[1])), want)
		wantValue(t, fmt.Sprintf("Sum of %d and %d", r[1], r[0]), impl.Sum(num(r[1]), num(r[0])), want)
	}
}

// Each fault stands ahead of those of the rows behind it, and nothing stands beside a code.
func TestSumFaultsInOrder(t *testing.T) {
	rows := []struct {
		a, b impl.Value
		code int64
	}{
		{impl.Value{}, impl.Value{}, impl.ErrForm},
		{impl.Value{}, num(1), impl.ErrForm},
		{num(1000001), letters("a"), impl.ErrForm},
		{letters("A"), num(1), impl.ErrForm},
		{letters("A"), letters("a"), impl.ErrForm},
		{num(math.MaxInt64), num(math.MaxInt64), impl.ErrForm},
		{num(math.MinInt64), num(math.MinInt64), impl.ErrForm},
		{num(math.MaxInt64), num(math.MinInt64), impl.ErrForm},
		{num(1000001), num(-1), impl.ErrForm},
		{letters(""), num(0), impl.ErrKind},
		{letters("1"), num(1), impl.ErrKind},
		{letters("a"), num(1000000), impl.ErrKind},
		{letters("a"), letters("b"), impl.ErrKind},
		{num(1000000), num(1), impl.ErrRange},
		{num(1000000), num(1000000), impl.ErrRange},
		{num(999999), num(2), impl.ErrRange},
		{num(-1000000), num(-1), impl.ErrRange},
		{num(-1000000), num(-1000000), impl.ErrRange},
		{num(-999999), num(-2), impl.ErrRange},
	}
	for i, r := range rows {
		wantValue(t, fmt.Sprintf("row %d", i), impl.Sum(r.a, r.b), impl.ValueOut{Code: r.code})
		wantValue(t, fmt.Sprintf("row %d turned round", i), impl.Sum(r.b, r.a), impl.ValueOut{Code: r.code})
	}
}

func checkExpr(t *testing.T, e impl.Expr, text string) {
	t.Helper()
	if !impl.ExprRight(e) {
		t.Errorf("not right: %s", text)
	}
	if got := impl.ExprText(e); got != text {
		t.Errorf("ExprText: got %q, want %q", got, text)
	}
	wantExpr(t, "ExprRead of "+text, impl.ExprRead(text), impl.ExprOut{Expr: e})
}

// Promise 4: the text of a right expression is just this, and it comes back from it.
func TestExprsComeBack(t *testing.T) {
	for _, c := range rightValues {
		checkExpr(t, tells(c.value), c.text)
	}
	for _, c := range rightAddrs {
		checkExpr(t, ref(c.addr, "size"), "@"+c.text+":size")
		checkExpr(t, ref(c.addr, word8), "@"+c.text+":abcdefgh")
	}
	checkExpr(t, index, "#")
	checkExpr(t, key, "$")
	checkExpr(t, sum(index, ref(diskA, "size")), "(# + @disk.a:size)")
	checkExpr(t, sum(tells(num(-1)), tells(num(-2))), "(-1 + -2)")
	checkExpr(t, sum(tells(letters("")), key), `("" + $)`)
	checkExpr(t, sum(sum(index, key), tells(letters("a"))), `((# + $) + "a")`)
	checkExpr(t, sum(ref(diskB, "x"), sum(index, tells(num(0)))), "(@m/n/disk.b[10]:x + (# + 0))")
}

// Promise 4, of all trees up to 3 deep of some leaves, and of those of them under one more sum.
func TestExprTreesComeBack(t *testing.T) {
	type tree struct {
		expr impl.Expr
		text string
	}
	trees := []tree{{tells(num(-7)), "-7"}, {ref(diskB, "x"), "@m/n/disk.b[10]:x"}, {index, "#"}}
	for range 2 {
		level := slices.Clone(trees[:3])
		for _, a := range trees {
			for _, b := range trees {
				level = append(level, tree{sum(a.expr, b.expr), "(" + a.text + " + " + b.text + ")"})
			}
		}
		trees = level
	}
	for i, c := range trees {
		other := trees[len(trees)-1-i]
		checkExpr(t, c.expr, c.text)
		checkExpr(t, sum(c.expr, other.expr), "("+c.text+" + "+other.text+")")
	}
}

// A field that an expression may have, the text that it adds where a kind names it (none of a wrong one), and whether
// it is its zero value.
type field[T any] struct {
	of   T
	text string
	zero bool
}

func exprFields() ([]field[impl.Value], []field[impl.Addr], []field[string], []field[[]impl.Expr]) {
	values := []field[impl.Value]{{zero: true}, {of: num(0), text: "0"}, {of: letters(""), text: `""`}, {of: letters("a"), text: `"a"`},
		{of: num(1000001)}, {of: impl.Value{N: 1}}, {of: impl.Value{Text: "a"}}, {of: impl.Value{Kind: 3}}}
	addrs := []field[impl.Addr]{{zero: true}, {of: impl.Addr{Path: []string{}}, zero: true}, {of: diskA, text: "disk.a"}, {of: diskB, text: "m/n/disk.b[10]"},
		{of: impl.Addr{Path: []string{"m"}}}, {of: impl.Addr{Path: []string{""}}}, {of: impl.Addr{Type: "disk"}}, {of: impl.Addr{Name: "a"}},
		{of: impl.Addr{Kind: 1}}, {of: impl.Addr{N: 1}}, {of: impl.Addr{Key: "x"}}}
	props := []field[string]{{zero: true}, {of: "size", text: "size"}, {of: word8, text: word8}, {of: word9}, {of: "a1"}, {of: "A"}}
	args := []field[[]impl.Expr]{{zero: true}, {of: []impl.Expr{}, zero: true}, {of: []impl.Expr{index, key}, text: "(# + $)"}, {of: []impl.Expr{index}},
		{of: []impl.Expr{index, key, index}}, {of: []impl.Expr{index, {}}}, {of: []impl.Expr{{}, index}}, {of: []impl.Expr{{}}}, {of: []impl.Expr{{}, {}}}}
	return values, addrs, props, args
}

// Whatever stands in each field: right is just what has all that its kind names, and nothing else.
func TestExprsOfAllFields(t *testing.T) {
	values, addrs, props, args := exprFields()
	for kind := int64(-1); kind <= 7; kind++ {
		for _, v := range values {
			for _, a := range addrs {
				for _, p := range props {
					for _, l := range args {
						want := ""
						switch {
						case kind == 1 && a.zero && p.zero && l.zero:
							want = v.text
						case kind == 2 && v.zero && l.zero && a.text != "" && p.text != "":
							want = "@" + a.text + ":" + p.text
						case kind == 3 && v.zero && a.zero && p.zero && l.zero:
							want = "#"
						case kind == 4 && v.zero && a.zero && p.zero && l.zero:
							want = "$"
						case kind == 5 && v.zero && a.zero && p.zero:
							want = l.text
						}
						checkFields(t, impl.Expr{Kind: kind, Value: v.of, Addr: a.of, Prop: p.of, Args: l.of}, want)
					}
				}
			}
		}
	}
}

// checkFields looks also whether an expression that is wrong makes one wrong in which it stands.
func checkFields(t *testing.T, e impl.Expr, want string) {
	t.Helper()
	if impl.ExprRight(e) != (want != "") || impl.ExprText(e) != want {
		t.Errorf("%+v: right %v, text %q, want %q", e, impl.ExprRight(e), impl.ExprText(e), want)
	}
	refs := strings.Count(want, "@")
	if got := impl.RefsOf(e); len(got) != refs {
		t.Errorf("RefsOf(%+v): %+v", e, got)
	}
	both := ""
	if want != "" {
		both = "(" + want + " + (# + " + want + "))"
	}
	if got := impl.ExprText(sum(e, sum(index, e))); got != both {
		t.Errorf("ExprText of a sum of %+v: got %q, want %q", e, got, both)
	}
	wrong := sum(sum(impl.Expr{}, e), sum(e, ref(diskA, "x")))
	if impl.ExprRight(wrong) || impl.ExprText(wrong) != "" || len(impl.RefsOf(wrong)) > 0 {
		t.Errorf("right: a sum with a wrong one and %+v", e)
	}
}

func TestWrongExprs(t *testing.T) {
	wrong := []impl.Expr{{}, {Kind: -1}, {Kind: 6}, {Kind: math.MinInt64}, {Kind: math.MaxInt64}, {Kind: 1<<32 + 3}, sum(), sum(index), sum(index, key, index), sum(index, index, index, index),
		{Kind: impl.ExSum, Args: slices.Repeat([]impl.Expr{index}, impl.MaxList+1)}, ref(diskA, ""), ref(diskA, "a1"), ref(diskA, word9), ref(diskA, strings.Repeat("a", impl.MaxBytes+1))}
	for _, a := range wrongAddrs {
		wrong = append(wrong, ref(a, "size"))
	}
	for i, e := range wrong {
		for _, x := range []impl.Expr{e, sum(e, index), sum(index, e), sum(sum(index, e), key)} {
			if impl.ExprRight(x) || impl.ExprText(x) != "" || len(impl.RefsOf(x)) > 0 {
				t.Errorf("%d: right", i)
			}
		}
	}
}

// leftDeep and rightDeep are of the depth that is asked; its text stands beside it.
func leftDeep(depth int) (impl.Expr, string) {
	e, text := ref(diskA, "x"), "@disk.a:x"
	for range depth - 1 {
		e, text = sum(e, index), "("+text+" + #)"
	}
	return e, text
}

func rightDeep(depth int) (impl.Expr, string) {
	e, text := ref(diskA, "x"), "@disk.a:x"
	for range depth - 1 {
		e, text = sum(index, e), "(# + "+text+")"
	}
	return e, text
}

func wholeDeep(depth int) (impl.Expr, string) {
	e, text := ref(diskA, "x"), "@disk.a:x"
	for range depth - 1 {
		e, text = sum(e, e), "("+text+" + "+text+")"
	}
	return e, text
}

func TestExprDepth(t *testing.T) {
	for i, deep := range []func(int) (impl.Expr, string){leftDeep, rightDeep, wholeDeep} {
		for depth := 1; depth <= 4; depth++ {
			e, text := deep(depth)
			checkExpr(t, e, text)
			wantRefs(t, text, impl.RefsOf(e), "disk.a")
		}
		for depth := 5; depth <= 9; depth++ {
			e, text := deep(depth)
			if impl.ExprRight(e) || impl.ExprText(e) != "" || len(impl.RefsOf(e)) > 0 {
				t.Errorf("%d: right, though %d deep", i, depth)
			}
			wantExpr(t, text, impl.ExprRead(text), impl.ExprOut{Code: impl.ErrSyntax})
		}
	}
	e, text := leftDeep(1500)
	if impl.ExprRight(e) || impl.ExprText(e) != "" || len(impl.RefsOf(e)) > 0 {
		t.Error("right, though 1500 deep")
	}
	wantExpr(t, text, impl.ExprRead(text[:impl.MaxBytes]), impl.ExprOut{Code: impl.ErrSyntax})
}

// A list of Args may stand within itself: it has no end, and is not right.
func TestExprWithoutEnd(t *testing.T) {
	args := []impl.Expr{index, index}
	args[0] = impl.Expr{Kind: impl.ExSum, Args: args}
	args[1] = args[0]
	if impl.ExprRight(args[0]) || impl.ExprText(args[0]) != "" || len(impl.RefsOf(args[0])) > 0 {
		t.Error("right, though it has no end")
	}
	for kind := int64(-1); kind <= 6; kind++ {
		e := impl.Expr{Kind: kind, Args: args}
		if impl.ExprRight(e) || impl.ExprText(e) != "" || len(impl.RefsOf(e)) > 0 {
			t.Errorf("right, though it has no end, of the kind %d", kind)
		}
	}
}

func TestExprTextsThatAreNone(t *testing.T) {
	texts := []string{"", " ", "(", ")", "()", "(1)", "(1", "1)", "(1 + 1", "(1 + ", "(1 +", "(1 ", "1 + 1)", "1 + 1", "(1+2)", "(1 +2)", "(1+ 2)", "(1  + 2)", "(1 +  2)", "( 1 + 2)", "(1 + 2 )",
		" (1 + 2)", "(1 + 2) ", "(1 + 2)\n", "(1\t+ 2)", "(1\n+\n2)", "(1 - 2)", "(1 +  + 2)", "(1 + + 2)", "(1 + +2)", "(1 + 2 + 3)", "(1 + 2))", "((1 + 2)", "((1 + 2))", "((1) + 2)",
		"(1 + )", "( + 1)", "( + )", "(+)", "(1 + 2)(1 + 2)", "(1 + 2)#", "(1 + 2) + 3", "#(1 + 2)", "(# + #", "##", "#$", "$$", "# ", " #", "#1", "1#", "(# + a)", "[1 + 2]", "{1 + 2}",
		"@", "@:", "@disk.a", "@disk.a:", "@:size", "disk.a:size", "@disk.a:size:size", "@disk.a::size", "@disk.a:a1", "@disk.a:Size", "@disk.a: size", "@disk.a :size", "@ disk.a:size",
		"@disk.a:size ", "@disk.a:size)", "@disk.a:size[3]", "@disk.a[3:size", "@disk.a[3]size", "@disk.a[03]:size", "@disk.a[100]:size", "@disk.a[]:size", "@disk:size", "@.a:size",
		"@m/n/o/disk.a:size", "@/disk.a:size", "@@disk.a:size", "@disk.a:@disk.a:size", "@disk.a:" + word9, "@disk." + word9 + ":size", "@(disk.a:size)", "(@disk.a:size)",
		`("a + b")`, `("a" + "b"`, `("a"+ "b")`, `("a b" + 1)`, `("a)" + 1)`, `("(" + 1)`, "(1000001 + 1)", "(-0 + 1)", "(01 + 1)", "(1 + -)", "\x00", "\xff", "(\xff + 1)"}
	for _, s := range texts {
		wantExpr(t, fmt.Sprintf("ExprRead(%q)", s), impl.ExprRead(s), impl.ExprOut{Code: impl.ErrSyntax})
		wantExpr(t, fmt.Sprintf("ExprRead of a sum with %q", s), impl.ExprRead("(# + "+s+")"), impl.ExprOut{Code: impl.ErrSyntax})
		wantExpr(t, fmt.Sprintf("ExprRead of a sum with %q ahead", s), impl.ExprRead("("+s+" + #)"), impl.ExprOut{Code: impl.ErrSyntax})
	}
}

func checkExprShape(t *testing.T, s string) {
	t.Helper()
	out := impl.ExprRead(s)
	if !exprShape.MatchString(s) {
		wantExpr(t, fmt.Sprintf("ExprRead(%q)", s), out, impl.ExprOut{Code: impl.ErrSyntax})
		return
	}
	if out.Code != impl.OK || !impl.ExprRight(out.Expr) || impl.ExprText(out.Expr) != s {
		t.Errorf("ExprRead(%q): %+v", s, out)
	}
}

// Each text that ends too early, or with a byte turned, put in or taken out, is read just where it has the right shape,
// and comes back.
func TestTurnedExprTexts(t *testing.T) {
	bytes := "\x00\n\x7f\x80\xff !\"#$'()*+,-./019:;@AZ[]_`az{"
	for _, s := range []string{"#", "-7", `"b"`, "@m/n/d.a[10]:x", "@d.a:x", "(1 + #)", `(("" + $) + @d.a[x]:y)`, "((1 + (# + 2)) + ($ + 3))", "(((1 + 2) + 3) + 4)", "((((1 + 2) + 3) + 4) + 5)"} {
		checkTurned(t, s, bytes, checkExprShape)
	}
}

// All texts of a few parts that stand in expressions.
func TestShortExprTexts(t *testing.T) {
	checkShort(t, []string{"(", ")", " + ", " ", "#", "@d.a:x"}, 6, checkExprShape)
}

func wantRefs(t *testing.T, what string, got []impl.Addr, want ...string) {
	t.Helper()
	var texts []string
	for _, a := range got {
		texts = append(texts, impl.AddrText(a))
	}
	if !slices.Equal(texts, want) {
		t.Errorf("RefsOf %s: got %q, want %q", what, texts, want)
	}
}

// The addresses are rising by their order, not by their texts, and no two are alike, whatever Prop is asked of them.
func TestRefsOf(t *testing.T) {
	rows := [][]string{
		{"1"},
		{`"a"`},
		{"#"},
		{"$"},
		{"(# + $)"},
		{"@disk.a:size", "disk.a"},
		{"(@disk.a:size + @disk.a:size)", "disk.a"},
		{"(@disk.a:x + @disk.a:y)", "disk.a"},
		{"(@disk.b:x + @disk.a:x)", "disk.a", "disk.b"},
		{"(@disk.a:x + @disk.b:x)", "disk.a", "disk.b"},
		{"(@disk.a[10]:x + @disk.a[9]:x)", "disk.a[9]", "disk.a[10]"},
		{"(@disk.a[a]:x + @disk.a[99]:x)", "disk.a[99]", "disk.a[a]"},
		{"(@disk.a[0]:x + @disk.a:x)", "disk.a", "disk.a[0]"},
		{"(@a/disk.a:x + @z.z:x)", "z.z", "a/disk.a"},
		{"(@aa/a.a:x + @a/b/a.a:x)", "a/b/a.a", "aa/a.a"},
		{"((@disk.b:x + @disk.a:x) + (@disk.b:y + @disk.a:y))", "disk.a", "disk.b"},
		{"(@c.c:x + (1 + (@b.b:x + @a.a:x)))", "a.a", "b.b", "c.c"},
		{"(((@h.h:x + @g.g:x) + (@f.f:x + @e.e:x)) + ((@d.d:x + @c.c:x) + (@b.b:x + @a.a:x)))", "a.a", "b.b", "c.c", "d.d", "e.e", "f.f", "g.g", "h.h"},
		{"(((@b.b:x + @a.a:x) + (@b.b:x + @a.a:x)) + ((@a.a:x + @b.b:x) + (@a.a:x + @b.b:x)))", "a.a", "b.b"},
	}
	for _, r := range rows {
		wantRefs(t, r[0], impl.RefsOf(readExpr(t, r[0])), r[1:]...)
	}
}

// All of an address comes out, and all addresses of a long list in their order.
func TestRefsOfAllAddrs(t *testing.T) {
	for i, x := range rightAddrs {
		for j, y := range rightAddrs {
			got := impl.RefsOf(sum(ref(x.addr, "p"), ref(y.addr, "q")))
			want := []impl.Addr{rightAddrs[min(i, j)].addr, rightAddrs[max(i, j)].addr}
			if i == j {
				want = want[:1]
			}
			if !slices.EqualFunc(got, want, impl.SameAddr) {
				t.Errorf("RefsOf %s and %s: %+v", x.text, y.text, got)
			}
		}
	}
}

// No call changes what is handed in, nor what stands behind it in its memory.
func TestExprArgumentsStay(t *testing.T) {
	path := roomy("m", "n")
	low, high := impl.Addr{Path: path, Type: "disk", Name: "a"}, impl.Addr{Path: path[:1], Type: "disk", Name: "z"}
	inner := append(make([]impl.Expr, 0, 6), ref(high, "x"), ref(low, "y"), tells(num(1)))[:2]
	args := append(make([]impl.Expr, 0, 6), sum(inner...), ref(low, "x"), key)[:2]
	e := impl.Expr{Kind: impl.ExSum, Args: args}
	before := told([]any{e, path[:4], inner[:6], args[:6]})
	impl.ExprRight(e)
	impl.ExprText(e)
	impl.RefsOf(e)
	impl.ExprRight(sum(e, e, e))
	if after := told([]any{e, path[:4], inner[:6], args[:6]}); after != before {
		t.Errorf("got %s, want %s", after, before)
	}
}

// An answer that is written to, or appended to, changes neither what was handed in nor another list of the answer.
func TestRefsAreNewMemory(t *testing.T) {
	path := roomy("m", "n")
	one, two := impl.Addr{Path: path, Type: "disk", Name: "a"}, impl.Addr{Path: path, Type: "disk", Name: "b"}
	for _, e := range []impl.Expr{ref(one, "x"), sum(ref(one, "x"), ref(two, "x")), sum(ref(two, "x"), sum(ref(one, "x"), ref(one, "y")))} {
		before := told([]any{e, path[:4]})
		refs := impl.RefsOf(e)
		for i := range refs {
			if !slices.Equal(refs[i].Path, []string{"m", "n"}) {
				t.Errorf("the path of %d: %q", i, refs[i].Path)
			}
			refs[i].Path[0] = "changed"
			_ = append(refs[i].Path, "changed", "changed")
			refs[i].Name = "changed"
		}
		_ = append(refs, impl.Addr{}, impl.Addr{})
		if after := told([]any{e, path[:4]}); after != before {
			t.Errorf("got %s, want %s", after, before)
		}
	}
}

func TestReadExprsAreNewMemory(t *testing.T) {
	text := "((@m/n/disk.a:x + @m/n/disk.a:x) + (@m/n/disk.a:x + @m/n/disk.a:x))"
	other := readExpr(t, text)
	e := readExpr(t, text)
	for i := range 2 {
		for j := range 2 {
			leaf := &e.Args[i].Args[j]
			if impl.ExprText(*leaf) != "@m/n/disk.a:x" {
				t.Errorf("leaf %d, %d is changed: %+v", i, j, leaf)
			}
			leaf.Addr.Path[0] = "changed"
			_ = append(leaf.Addr.Path, "changed")
			*leaf = impl.Expr{}
		}
		_ = append(e.Args[i].Args, index)
	}
	_ = append(e.Args, index)
	if impl.ExprText(other) != text || impl.ExprText(readExpr(t, text)) != text {
		t.Error("two answers share memory")
	}
}
