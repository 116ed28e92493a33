package tests

import (
	"fmt"
	"math"
	"regexp"
	"slices"
	"strings"
	"testing"

	"loop.example/g00770/impl"
)

const (
	word8 = "abcdefgh"
	word9 = "abcdefghi"
)

// rightAddrs are right addresses in rising order, each with its text.
var rightAddrs = []struct {
	addr impl.Addr
	text string
}{
	{impl.Addr{Type: "a", Name: "z"}, "a.z"},
	{impl.Addr{Type: "ab", Name: "a"}, "ab.a"},
	{impl.Addr{Type: "disk", Name: "a"}, "disk.a"},
	{impl.Addr{Type: "disk", Name: "a", Kind: 1}, "disk.a[0]"},
	{impl.Addr{Type: "disk", Name: "a", Kind: 1, N: 1}, "disk.a[1]"},
	{impl.Addr{Type: "disk", Name: "a", Kind: 1, N: 9}, "disk.a[9]"},
	{impl.Addr{Type: "disk", Name: "a", Kind: 1, N: 10}, "disk.a[10]"},
	{impl.Addr{Type: "disk", Name: "a", Kind: 1, N: 99}, "disk.a[99]"},
	{impl.Addr{Type: "disk", Name: "a", Kind: 2, Key: "a"}, "disk.a[a]"},
	{impl.Addr{Type: "disk", Name: "a", Kind: 2, Key: word8}, "disk.a[abcdefgh]"},
	{impl.Addr{Type: "disk", Name: "a", Kind: 2, Key: "b"}, "disk.a[b]"},
	{impl.Addr{Type: "disk", Name: "aa"}, "disk.aa"},
	{impl.Addr{Type: "disk", Name: "b"}, "disk.b"},
	{impl.Addr{Type: "diska", Name: "a"}, "diska.a"},
	{impl.Addr{Type: "z", Name: "a"}, "z.a"},
	{impl.Addr{Path: []string{"a"}, Type: "disk", Name: "a"}, "a/disk.a"},
	{impl.Addr{Path: []string{"a"}, Type: "disk", Name: "a", Kind: 1, N: 3}, "a/disk.a[3]"},
	{impl.Addr{Path: []string{"a"}, Type: "z", Name: "z", Kind: 2, Key: "zz"}, "a/z.z[zz]"},
	{impl.Addr{Path: []string{"a", "a"}, Type: "disk", Name: "a"}, "a/a/disk.a"},
	{impl.Addr{Path: []string{"a", "b"}, Type: "a", Name: "a"}, "a/b/a.a"},
	{impl.Addr{Path: []string{"a", "z"}, Type: "a", Name: "a"}, "a/z/a.a"},
	{impl.Addr{Path: []string{"aa"}, Type: "a", Name: "a"}, "aa/a.a"},
	{impl.Addr{Path: []string{word8, word8}, Type: word8, Name: word8, Kind: 2, Key: word8}, "abcdefgh/abcdefgh/abcdefgh.abcdefgh[abcdefgh]"},
	{impl.Addr{Path: []string{"b"}, Type: "a", Name: "a"}, "b/a.a"},
	{impl.Addr{Path: []string{"b", "a"}, Type: "a", Name: "a"}, "b/a/a.a"},
}

// wrongAddrs differ from a right address in one thing each.
var wrongAddrs = []impl.Addr{
	{},
	{Type: "disk"},
	{Name: "a"},
	{Type: word9, Name: "a"},
	{Type: "disk", Name: word9},
	{Type: "Disk", Name: "a"},
	{Type: "disk", Name: "a1"},
	{Type: "disk.", Name: "a"},
	{Type: "disk", Name: "a[0]"},
	{Type: "m/disk", Name: "a"},
	{Path: []string{""}, Type: "disk", Name: "a"},
	{Path: []string{"m", ""}, Type: "disk", Name: "a"},
	{Path: []string{"", "m"}, Type: "disk", Name: "a"},
	{Path: []string{"m/n"}, Type: "disk", Name: "a"},
	{Path: []string{word9}, Type: "disk", Name: "a"},
	{Path: []string{"m", "N"}, Type: "disk", Name: "a"},
	{Path: []string{"m", "n", "o"}, Type: "disk", Name: "a"},
	{Path: []string{"", "", ""}, Type: "disk", Name: "a"},
	{Path: manyWords(impl.MaxList + 1), Type: "disk", Name: "a"},
	{Type: "disk", Name: "a", Kind: -1},
	{Type: "disk", Name: "a", Kind: 3},
	{Type: "disk", Name: "a", Kind: 3, N: 1, Key: "x"},
	{Type: "disk", Name: "a", Kind: math.MaxInt64},
	{Type: "disk", Name: "a", Kind: math.MinInt64},
	{Type: "disk", Name: "a", N: 1},
	{Type: "disk", Name: "a", N: -1},
	{Type: "disk", Name: "a", Key: "x"},
	{Type: "disk", Name: "a", Kind: 1, N: -1},
	{Type: "disk", Name: "a", Kind: 1, N: 100},
	{Type: "disk", Name: "a", Kind: 1, N: math.MaxInt64},
	{Type: "disk", Name: "a", Kind: 1, N: math.MinInt64},
	{Type: "disk", Name: "a", Kind: 1, N: 3, Key: "x"},
	{Type: "disk", Name: "a", Kind: 2},
	{Type: "disk", Name: "a", Kind: 2, Key: word9},
	{Type: "disk", Name: "a", Kind: 2, Key: "0"},
	{Type: "disk", Name: "a", Kind: 2, Key: "X"},
	{Type: "disk", Name: "a", Kind: 2, Key: "x]"},
	{Type: "disk", Name: "a", Kind: 2, N: 1, Key: "x"},
	{Type: "disk", Name: "a", Kind: 2, N: -1, Key: "x"},
}

// addrShape is the text of an address, told in another way than the program reads it.
var addrShape = regexp.MustCompile(`^([a-z]{1,8}/){0,2}[a-z]{1,8}\.[a-z]{1,8}(\[([0-9]|[1-9][0-9]|[a-z]{1,8})\])?$`)

func manyWords(many int) []string {
	return slices.Repeat([]string{"m"}, many)
}

// told writes an answer out; an empty list and none are the same.
func told(x any) string {
	return fmt.Sprintf("%#v", x)
}

func plain(o impl.AddrOut) impl.AddrOut {
	if len(o.Addr.Path) == 0 {
		o.Addr.Path = nil
	}
	return o
}

func wantAddr(t *testing.T, what string, got impl.AddrOut, want impl.AddrOut) {
	t.Helper()
	if told(plain(got)) != told(plain(want)) {
		t.Errorf("%s: got %+v, want %+v", what, got, want)
	}
}

func readAddr(t *testing.T, text string) impl.Addr {
	t.Helper()
	out := impl.AddrRead(text)
	if out.Code != impl.OK {
		t.Fatalf("AddrRead(%q): code %d", text, out.Code)
	}
	return out.Addr
}

// allPaths are all paths of at most many words, each one of a, b and ab.
func allPaths(many int) [][]string {
	out := [][]string{nil}
	for from := 0; many > 0; many-- {
		end := len(out)
		for _, p := range out[from:end] {
			for _, w := range []string{"a", "b", "ab"} {
				out = append(out, append(slices.Clone(p), w))
			}
		}
		from = end
	}
	return out
}

func TestMaxPath(t *testing.T) {
	if impl.MaxPath != 2 {
		t.Errorf("MaxPath is %d", impl.MaxPath)
	}
}

func TestWords(t *testing.T) {
	for _, w := range []string{"a", "z", "az", "disk", word8, "zzzzzzzz"} {
		if !impl.WordRight(w) {
			t.Errorf("no word: %q", w)
		}
	}
	wrong := []string{"", word9, "abcdefg1", "a1", "1a", "a_b", "a b", " a", "a ", "a\n", "a\x00", "a.b", "a/b", "Ab", "aB", "\xe9", "a\xc3\xa9",
		strings.Repeat("a", impl.MaxBytes), strings.Repeat("a", impl.MaxBytes+1)}
	for _, w := range wrong {
		if impl.WordRight(w) {
			t.Errorf("a word: %.40q", w)
		}
	}
}

// Each byte by itself, and at each place of a word.
func TestWordBytes(t *testing.T) {
	for b := range 256 {
		want := b >= 'a' && b <= 'z'
		for i := range len(word8) {
			text := word8[:i] + string([]byte{byte(b)}) + word8[i+1:]
			for _, w := range []string{text, text[:i+1], text[i : i+1]} {
				if got := impl.WordRight(w); got != want {
					t.Errorf("WordRight(%q): %v", w, got)
				}
			}
		}
	}
}

// Promise 3: the text of a right address is just this, and it comes back from it.
func TestAddrComesBack(t *testing.T) {
	for _, c := range rightAddrs {
		if !impl.AddrRight(c.addr) {
			t.Errorf("not right: %+v", c.addr)
		}
		if got := impl.AddrText(c.addr); got != c.text {
			t.Errorf("AddrText(%+v): got %q, want %q", c.addr, got, c.text)
		}
		wantAddr(t, "AddrRead of "+c.text, impl.AddrRead(c.text), impl.AddrOut{Addr: c.addr})
	}
}

// Promise 3, of each number that may be a key.
func TestNumberKeysComeBack(t *testing.T) {
	for n := range int64(100) {
		a := impl.Addr{Path: []string{"m", "n"}, Type: "disk", Name: "a", Kind: 1, N: n}
		text := fmt.Sprintf("m/n/disk.a[%d]", n)
		if got := impl.AddrText(a); got != text {
			t.Errorf("AddrText: got %q, want %q", got, text)
		}
		wantAddr(t, text, impl.AddrRead(text), impl.AddrOut{Addr: a})
	}
}

// Promise 3, of whatever stands in each field: right is just what a text of the right shape would tell.
func TestAddrsOfAllFields(t *testing.T) {
	words := []string{"", "a", word8, word9, "a1"}
	paths := [][]string{nil, {}, {"m"}, {"m", "n"}, {"m", "n", "o"}, {""}, {"m", "n1"}}
	keys := []string{"", "x", word8, word9, "3"}
	numbers := []int64{-1, 0, 9, 10, 99, 100}
	for _, p := range paths {
		for _, w := range words {
			for kind := int64(-1); kind <= 3; kind++ {
				for _, n := range numbers {
					for _, k := range keys {
						checkRight(t, impl.Addr{Path: p, Type: w, Name: "a", Kind: kind, N: n, Key: k})
						checkRight(t, impl.Addr{Path: p, Type: "disk", Name: w, Kind: kind, N: n, Key: k})
					}
				}
			}
		}
	}
}

func checkRight(t *testing.T, a impl.Addr) {
	t.Helper()
	text, own := a.Type+"."+a.Name, a.Kind == 0 && a.N == 0 && a.Key == ""
	if len(a.Path) > 0 {
		text = strings.Join(a.Path, "/") + "/" + text
	}
	if a.Kind == 1 {
		text, own = fmt.Sprintf("%s[%d]", text, a.N), a.Key == ""
	}
	// The word 3 has the shape of a number: it is none by its Kind.
	if a.Kind == 2 {
		text, own = text+"["+a.Key+"]", a.N == 0 && !strings.Contains(a.Key, "3")
	}
	if !own || !addrShape.MatchString(text) {
		text = ""
	}
	if got := impl.AddrRight(a); got != (text != "") {
		t.Errorf("AddrRight(%+v): %v", a, got)
	}
	if got := impl.AddrText(a); got != text {
		t.Errorf("AddrText(%+v): got %q, want %q", a, got, text)
	}
	if text != "" {
		wantAddr(t, "AddrRead of "+text, impl.AddrRead(text), impl.AddrOut{Addr: a})
	}
}

func TestWrongAddrs(t *testing.T) {
	right := impl.Addr{Type: "disk", Name: "b"}
	for _, a := range wrongAddrs {
		if impl.AddrRight(a) {
			t.Errorf("right: %+v", a)
		}
		if got := impl.AddrText(a); got != "" {
			t.Errorf("AddrText(%+v): %q", a, got)
		}
		wantAddr(t, "Bare of a wrong one", impl.AddrOut{Addr: impl.Bare(a)}, impl.AddrOut{})
		if impl.AddrLess(a, right) || impl.AddrLess(right, a) || impl.AddrLess(a, a) {
			t.Errorf("AddrLess of a wrong one: %+v", a)
		}
		if impl.Under(a, nil) || impl.Under(a, a.Path) || impl.Under(a, []string{"m"}) {
			t.Errorf("Under of a wrong one: %+v", a)
		}
		if !impl.SameAddr(a, a) || impl.SameAddr(a, right) {
			t.Errorf("SameAddr of a wrong one: %+v", a)
		}
		wantAddr(t, "Rehome of a wrong one", impl.Rehome(a, nil, nil), impl.AddrOut{Code: impl.ErrForm})
	}
}

func TestAddrTextsThatAreNone(t *testing.T) {
	texts := []string{"", ".", "/", "[", "]", "[]", "disk", "disk.", ".a", "disk..a", "disk.a.b", "diska", "disk a", "disk/a",
		"/disk.a", "m//disk.a", "//disk.a", "m/n//disk.a", "m/n/o/disk.a", "m/", "m/n/", "m/disk", "m/disk.", "m/.a", "m.disk.a", "m.n/disk.a",
		"disk.a/", "disk.a/b", "disk.a/m/", "m[1]/disk.a", "disk[1].a", "[1]disk.a", "disk.[1]a", "disk.[1]",
		"disk.a[]", "disk.a[", "disk.a]", "disk.a[3", "disk.a3]", "disk.a[3]]", "disk.a[[3]", "disk.a[[3]]", "disk.a[3][3]", "disk.a[3]x", "disk.a[3] ",
		"disk.a[3]\n", "disk.a[3].", "disk.a[3]/", "disk.a[3]/b", "disk.a [3]", "disk.a[ 3]", "disk.a[3 ]", "disk.a\n", " disk.a", "disk.a ", "disk .a",
		"disk.a[00]", "disk.a[01]", "disk.a[03]", "disk.a[003]", "disk.a[010]", "disk.a[099]", "disk.a[100]", "disk.a[101]", "disk.a[999]",
		"disk.a[-0]", "disk.a[-1]", "disk.a[+0]", "disk.a[+3]", "disk.a[3.0]", "disk.a[1e1]", "disk.a[0x1]", "disk.a[1_0]", "disk.a[9223372036854775807]",
		"disk.a[18446744073709551616]", "disk.a[18446744073709551619]", "disk.a[3a]", "disk.a[a3]", "disk.a[X]", "disk.a[a.b]", "disk.a[a/b]", "disk.a[\"a\"]",
		"disk.a[" + word9 + "]", "disk." + word9, word9 + ".a", word9 + "/disk.a", "m/" + word9 + "/disk.a", "Disk.a", "disk.A", "M/disk.a", "d1sk.a", "disk.a1",
		"disk.\x00", "d\xe9sk.a", "disk.\xc3\xa9", "disk.a\x00", "disk.a[\x00]"}
	for _, text := range texts {
		wantAddr(t, fmt.Sprintf("AddrRead(%q)", text), impl.AddrRead(text), impl.AddrOut{Code: impl.ErrSyntax})
	}
}

// Each text with a byte turned, put in or taken out is read just where it has the right shape, and comes back.
func TestTurnedAddrTexts(t *testing.T) {
	for _, text := range []string{"a.b", "disk.a[0]", "d.a[99]", "m/d.a[x]", "m/n/d.a", word8 + "." + word8 + "[" + word8 + "]"} {
		checkTurned(t, text, eachByte(), checkShape)
	}
}

// All texts of a few bytes that stand in addresses.
func TestShortAddrTexts(t *testing.T) {
	for _, text := range checkShort(t, strings.Split("a.[]/10", ""), 5, checkShape) {
		checkShape(t, "a.a"+text)
	}
}

func checkShape(t *testing.T, text string) {
	t.Helper()
	out := impl.AddrRead(text)
	if addrShape.MatchString(text) {
		if out.Code != impl.OK || !impl.AddrRight(out.Addr) || impl.AddrText(out.Addr) != text {
			t.Errorf("AddrRead(%q): %+v", text, out)
		}
		return
	}
	if told(plain(out)) != told(impl.AddrOut{Code: impl.ErrSyntax}) {
		t.Errorf("AddrRead(%q): %+v", text, out)
	}
}

func TestAddrReadSize(t *testing.T) {
	for _, part := range []string{"a", "/", "a/", ".", "[", "]", "0"} {
		full := strings.Repeat(part, impl.MaxBytes)[:impl.MaxBytes]
		wantAddr(t, "the longest text", impl.AddrRead(full), impl.AddrOut{Code: impl.ErrSyntax})
		wantAddr(t, "a text too long", impl.AddrRead(full+"a"), impl.AddrOut{Code: impl.ErrSize})
	}
	noughts := "disk.a[" + strings.Repeat("0", impl.MaxBytes) + "3]"
	wantAddr(t, "noughts above the limit", impl.AddrRead(noughts), impl.AddrOut{Code: impl.ErrSize})
	wantAddr(t, "noughts below the limit", impl.AddrRead(noughts[:7]+noughts[20:]), impl.AddrOut{Code: impl.ErrSyntax})
}

func TestAddrOrder(t *testing.T) {
	for i, x := range rightAddrs {
		for j, y := range rightAddrs {
			if got := impl.AddrLess(x.addr, y.addr); got != (i < j) {
				t.Errorf("AddrLess(%s, %s): %v", x.text, y.text, got)
			}
			if got := impl.SameAddr(x.addr, y.addr); got != (i == j) {
				t.Errorf("SameAddr(%s, %s): %v", x.text, y.text, got)
			}
		}
	}
}

// The fields count in their order: what is ahead by an earlier one may be behind by all later ones.
func TestAddrOrderOfFields(t *testing.T) {
	rows := [][2]string{
		{"z.z[z]", "a/a.a"},
		{"a/z.z[z]", "b/a.a"},
		{"a/z.z", "a/a/a.a"},
		{"a/z/z.z", "aa/a.a"},
		{"aa/z.z", "b/a/a.a"},
		{"a.z[z]", "b.a"},
		{"a.a[z]", "a.b"},
		{"a.a", "a.a[0]"},
		{"a.a[99]", "a.a[a]"},
		{"a.a[9]", "a.a[10]"},
		{"a.a[aa]", "a.a[b]"},
	}
	for _, r := range rows {
		x, y := readAddr(t, r[0]), readAddr(t, r[1])
		if !impl.AddrLess(x, y) || impl.AddrLess(y, x) {
			t.Errorf("%s is not ahead of %s", r[0], r[1])
		}
	}
}

// Alike are addresses of which no field differs, whether they are right or not.
func TestSameAddrByFields(t *testing.T) {
	base := impl.Addr{Path: []string{"m", "n"}, Type: "disk", Name: "a", Kind: 2, N: 5, Key: "x"}
	same := base
	same.Path = []string{"m", "n"}
	if !impl.SameAddr(base, same) {
		t.Error("not alike, though no field differs")
	}
	others := slices.Repeat([]impl.Addr{base}, 11)
	for i, p := range [][]string{nil, {"m"}, {"n", "m"}, {"m", "o"}, {"m", "n", ""}, {"mn"}} {
		others[i].Path = p
	}
	others[6].Type = "disks"
	others[7].Name = "b"
	others[8].Kind = 1
	others[9].N = 6
	others[10].Key = "y"
	for i, o := range others {
		if impl.SameAddr(base, o) || impl.SameAddr(o, base) {
			t.Errorf("%d: alike: %+v", i, o)
		}
	}
	if !impl.SameAddr(impl.Addr{}, impl.Addr{Path: []string{}}) {
		t.Error("an empty path and none are not alike")
	}
	long := impl.Addr{Path: manyWords(impl.MaxList + 1), Type: strings.Repeat("a", impl.MaxBytes+1)}
	if !impl.SameAddr(long, impl.Addr{Path: manyWords(impl.MaxList + 1), Type: long.Type}) {
		t.Error("the limits are not those of fields")
	}
	if impl.SameAddr(long, impl.Addr{Path: manyWords(impl.MaxList + 2), Type: long.Type}) {
		t.Error("paths of two lengths are alike")
	}
}

func TestBare(t *testing.T) {
	rows := [][2]string{
		{"disk.a", "disk.a"},
		{"disk.a[0]", "disk.a"},
		{"disk.a[99]", "disk.a"},
		{"disk.a[x]", "disk.a"},
		{"m/disk.a[3]", "m/disk.a"},
		{"m/n/disk.a[abcdefgh]", "m/n/disk.a"},
	}
	for _, r := range rows {
		wantAddr(t, "Bare of "+r[0], impl.AddrOut{Addr: impl.Bare(readAddr(t, r[0]))}, impl.AddrOut{Addr: readAddr(t, r[1])})
	}
}

func TestUnder(t *testing.T) {
	for _, p := range allPaths(2) {
		a := impl.Addr{Path: p, Type: "disk", Name: "a", Kind: 2, Key: "x"}
		for _, q := range allPaths(4) {
			want := strings.HasPrefix(strings.Join(append(slices.Clone(p), ""), "/"), strings.Join(append(slices.Clone(q), ""), "/"))
			if got := impl.Under(a, q); got != want {
				t.Errorf("%v Under %v: %v", p, q, got)
			}
		}
		if !impl.Under(a, []string{}) {
			t.Errorf("%v is not Under an empty path", p)
		}
	}
	a := readAddr(t, "m/m/disk.a")
	for _, p := range [][]string{{""}, {"", "m"}, {"m", ""}, {"M"}, {"mm"}, {"m/m"}, {"m", "m", ""}, manyWords(3), manyWords(400), manyWords(401)} {
		if impl.Under(a, p) {
			t.Errorf("Under %d words", len(p))
		}
	}
}

// Promise 3: what goes to another home, and back, is where it was; and what does not go is told why.
func TestRehomeThereAndBack(t *testing.T) {
	for _, p := range allPaths(2) {
		for _, from := range allPaths(3) {
			for _, to := range allPaths(3) {
				checkRehome(t, impl.Addr{Path: p, Type: "disk", Name: "a"}, from, to)
				checkRehome(t, impl.Addr{Path: p, Type: "disk", Name: "a", Kind: 1, N: 10}, from, to)
				checkRehome(t, impl.Addr{Path: p, Type: "disk", Name: "a", Kind: 2, Key: "x"}, from, to)
			}
		}
	}
}

func checkRehome(t *testing.T, a impl.Addr, from []string, to []string) {
	t.Helper()
	want := impl.AddrOut{Addr: a}
	switch {
	case len(from) > 2 || len(to) > 2:
		want = impl.AddrOut{Code: impl.ErrForm}
	case len(from) > len(a.Path) || !slices.Equal(a.Path[:len(from)], from):
		want = impl.AddrOut{Code: impl.ErrNone}
	case len(a.Path)-len(from)+len(to) > 2:
		want = impl.AddrOut{Code: impl.ErrFull}
	default:
		want.Addr.Path = append(slices.Clone(to), a.Path[len(from):]...)
	}
	there := impl.Rehome(a, from, to)
	wantAddr(t, fmt.Sprintf("Rehome of %v from %v to %v", a.Path, from, to), there, want)
	if there.Code == impl.OK {
		back := impl.Rehome(there.Addr, to, from)
		wantAddr(t, fmt.Sprintf("Rehome of %v from %v to %v, and back", a.Path, from, to), back, impl.AddrOut{Addr: a})
	}
}

func TestRehomeToNoWords(t *testing.T) {
	rows := []struct {
		text     string
		from, to []string
		want     string
	}{
		{"disk.a", nil, nil, "disk.a"},
		{"disk.a", []string{}, []string{"m"}, "m/disk.a"},
		{"disk.a[3]", nil, []string{"m", "n"}, "m/n/disk.a[3]"},
		{"n/disk.a[x]", nil, []string{"m"}, "m/n/disk.a[x]"},
		{"m/disk.a", []string{"m"}, nil, "disk.a"},
		{"m/n/disk.a", []string{"m"}, []string{}, "n/disk.a"},
		{"m/n/disk.a", []string{"m", "n"}, nil, "disk.a"},
		{"m/n/disk.a", nil, nil, "m/n/disk.a"},
		{"m/n/disk.a", []string{"m"}, []string{"m"}, "m/n/disk.a"},
	}
	for _, r := range rows {
		out := impl.Rehome(readAddr(t, r.text), r.from, r.to)
		wantAddr(t, fmt.Sprintf("Rehome of %s from %v to %v", r.text, r.from, r.to), out, impl.AddrOut{Addr: readAddr(t, r.want)})
	}
}

// Each fault stands ahead of those of the rows behind it, and nothing stands beside a code.
func TestRehomeFaultsInOrder(t *testing.T) {
	right, wrong := readAddr(t, "m/n/disk.a"), impl.Addr{Path: []string{"m"}, Type: "disk"}
	rows := []struct {
		a        impl.Addr
		from, to []string
		code     int64
	}{
		{right, manyWords(401), nil, impl.ErrSize},
		{right, nil, manyWords(401), impl.ErrSize},
		{wrong, manyWords(401), nil, impl.ErrSize},
		{wrong, []string{"M"}, manyWords(401), impl.ErrSize},
		{wrong, manyWords(400), nil, impl.ErrForm},
		{right, manyWords(400), nil, impl.ErrForm},
		{right, nil, manyWords(400), impl.ErrForm},
		{wrong, []string{"m"}, nil, impl.ErrForm},
		{wrong, []string{"x"}, []string{"x"}, impl.ErrForm},
		{right, manyWords(3), nil, impl.ErrForm},
		{right, []string{"m"}, manyWords(3), impl.ErrForm},
		{right, []string{"x"}, manyWords(3), impl.ErrForm},
		{right, []string{"x", "y", "z"}, []string{"x"}, impl.ErrForm},
		{right, []string{""}, nil, impl.ErrForm},
		{right, []string{"m", ""}, nil, impl.ErrForm},
		{right, []string{"x", "1"}, nil, impl.ErrForm},
		{right, []string{"m"}, []string{""}, impl.ErrForm},
		{right, []string{"m"}, []string{"x", word9}, impl.ErrForm},
		{right, []string{"x"}, []string{"X"}, impl.ErrForm},
		{right, []string{"x"}, []string{strings.Repeat("a", impl.MaxBytes+1)}, impl.ErrForm},
		{right, []string{"x"}, []string{"x", "y"}, impl.ErrNone},
		{right, []string{"n"}, nil, impl.ErrNone},
		{right, []string{"m", "x"}, nil, impl.ErrNone},
		{readAddr(t, "m/disk.a"), []string{"m", "n"}, []string{"x", "y"}, impl.ErrNone},
		{readAddr(t, "disk.a"), []string{"m"}, nil, impl.ErrNone},
		{right, []string{"m"}, []string{"x", "y"}, impl.ErrFull},
		{right, nil, []string{"x"}, impl.ErrFull},
		{readAddr(t, "m/disk.a"), nil, []string{"x", "y"}, impl.ErrFull},
	}
	for i, r := range rows {
		wantAddr(t, fmt.Sprintf("row %d", i), impl.Rehome(r.a, r.from, r.to), impl.AddrOut{Code: r.code})
	}
}

// roomy has room behind its words, so that whoever appends to it in place would write there.
func roomy(words ...string) []string {
	return append(append(make([]string, 0, 8), words...), "left", "right")[:len(words)]
}

// No call changes what is handed in, nor what stands behind it in its memory.
func TestAddrArgumentsStay(t *testing.T) {
	path, from, to, other := roomy("m", "n"), roomy("m"), roomy("x"), roomy("m")
	a := impl.Addr{Path: path, Type: "disk", Name: "a", Kind: 1, N: 3}
	b := impl.Addr{Path: other, Type: "disk", Name: "b"}
	before := told([]any{a, b, path[:4], from[:3], to[:3], other[:3]})
	impl.AddrRight(a)
	impl.AddrText(a)
	impl.AddrLess(a, b)
	impl.SameAddr(a, b)
	impl.Bare(a)
	impl.Under(a, from)
	impl.Rehome(a, from, to)
	impl.Rehome(a, from, nil)
	impl.Rehome(b, nil, to)
	impl.Rehome(a, nil, to)
	if after := told([]any{a, b, path[:4], from[:3], to[:3], other[:3]}); after != before {
		t.Errorf("got %s, want %s", after, before)
	}
}

// An answer that is written to, or appended to, changes none of what was handed in.
func TestAddrAnswersAreNewMemory(t *testing.T) {
	path, from, to := roomy("m", "n"), roomy("m"), roomy("x")
	a := impl.Addr{Path: path, Type: "disk", Name: "a", Kind: 2, Key: "x"}
	full := impl.Addr{Path: to, Type: "disk", Name: "a"}
	before := told([]any{a, full, path[:4], from[:3], to[:3]})
	answers := []impl.Addr{impl.Bare(a), impl.Bare(full), impl.Rehome(a, nil, nil).Addr, impl.Rehome(a, from, to).Addr, impl.Rehome(a, from, nil).Addr,
		impl.Rehome(a, from, from).Addr, impl.Rehome(a, path, to).Addr, impl.Rehome(a, path, path).Addr, impl.Rehome(full, nil, from).Addr, impl.Rehome(full, to, to).Addr}
	for i, x := range answers {
		if len(x.Path) == 0 {
			t.Errorf("answer %d has no path", i)
		}
		for j := range x.Path {
			x.Path[j] = "changed"
		}
		_ = append(x.Path, "changed", "changed")
	}
	if after := told([]any{a, full, path[:4], from[:3], to[:3]}); after != before {
		t.Errorf("got %s, want %s", after, before)
	}
	one, two := impl.AddrRead("m/disk.a").Addr, impl.AddrRead("m/disk.a").Addr
	one.Path[0] = "changed"
	if two.Path[0] != "m" {
		t.Error("two answers share memory")
	}
}
