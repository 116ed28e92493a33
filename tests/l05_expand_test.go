package tests

import (
	"fmt"
	"math"
	"math/rand"
	"slices"
	"strings"
	"testing"

	"loop.example/g00770/impl"
)

func pair(name string, v impl.Value) impl.Pair {
	return impl.Pair{Name: name, Value: v}
}

func pairs(l ...impl.Pair) []impl.Pair {
	return l
}

// thing is one without Pairs.
func thing(t *testing.T, addr string, needs ...string) impl.Thing {
	t.Helper()
	x := impl.Thing{Addr: readAddr(t, addr)}
	for _, need := range needs {
		x.Needs = append(x.Needs, readAddr(t, need))
	}
	return x
}

// things makes one of each line: its Addr, and what it needs.
func things(t *testing.T, lines ...string) []impl.Thing {
	t.Helper()
	var l []impl.Thing
	for _, line := range lines {
		words := strings.Fields(line)
		l = append(l, thing(t, words[0], words[1:]...))
	}
	return l
}

// plainExpand makes none of each empty list, as both are the same.
func plainExpand(o impl.ExpandOut) impl.ExpandOut {
	out := impl.ExpandOut{Code: o.Code}
	for _, x := range o.Things {
		one := impl.Thing{Addr: plainPath(x.Addr), Pairs: append([]impl.Pair(nil), x.Pairs...)}
		for _, need := range x.Needs {
			one.Needs = append(one.Needs, plainPath(need))
		}
		out.Things = append(out.Things, one)
	}
	for _, a := range o.Order {
		out.Order = append(out.Order, plainPath(a))
	}
	return out
}

func wantExpand(t *testing.T, what string, got impl.ExpandOut, want impl.ExpandOut) {
	t.Helper()
	if told(plainExpand(got)) != told(plainExpand(want)) {
		t.Errorf("%.300s: got %+v, want %+v", what, got, want)
	}
}

// thingLines are the things that are told, a line each.
func thingLines(l []impl.Thing) string {
	var text strings.Builder
	for _, x := range l {
		text.WriteString(impl.AddrText(x.Addr))
		for _, p := range x.Pairs {
			text.WriteString(" " + p.Name + "=" + impl.ValueText(p.Value))
		}
		for _, need := range x.Needs {
			text.WriteString(" <" + impl.AddrText(need))
		}
		text.WriteString("\n")
	}
	return text.String()
}

func orderLine(l []impl.Addr) string {
	var texts []string
	for _, a := range l {
		texts = append(texts, impl.AddrText(a))
	}
	return strings.Join(texts, " ")
}

// checkOrder checks that each thing stands in the order once, and behind all that it needs.
func checkOrder(t *testing.T, what string, out impl.ExpandOut) {
	t.Helper()
	place := map[string]int{}
	for i, a := range out.Order {
		place[impl.AddrText(a)] = i
	}
	if len(place) != len(out.Things) || len(out.Order) != len(out.Things) {
		t.Errorf("%.300s: %d things, and the order %q", what, len(out.Things), orderLine(out.Order))
	}
	for _, x := range out.Things {
		at, there := place[impl.AddrText(x.Addr)]
		if !there {
			t.Errorf("%.300s: %s is not in the order", what, impl.AddrText(x.Addr))
		}
		for _, need := range x.Needs {
			ahead, among := place[impl.AddrText(need)]
			if among && ahead >= at {
				t.Errorf("%.300s: %s stands ahead of %s", what, impl.AddrText(x.Addr), impl.AddrText(need))
			}
		}
	}
}

// checkExpand checks all that promise 6 says of what a right config comes to.
func checkExpand(t *testing.T, c impl.Config, out impl.ExpandOut) {
	t.Helper()
	text := impl.ConfigText(c)
	var keys []impl.Addr
	for _, b := range c.Blocks {
		keys = append(keys, impl.KeysOf(b)...)
	}
	var addrs []impl.Addr
	for i, x := range out.Things {
		if !impl.ThingRight(x) || i > 0 && !impl.AddrLess(addrs[i-1], x.Addr) {
			t.Errorf("%q: no right book: %+v", text, out.Things)
		}
		addrs = append(addrs, x.Addr)
	}
	if len(addrs) > impl.MaxThings || !slices.EqualFunc(addrs, keys, impl.SameAddr) {
		t.Errorf("%q: got %q, want %q", text, orderLine(addrs), orderLine(keys))
	}
	checkOrder(t, text, out)
}

func TestMaxThings(t *testing.T) {
	if impl.MaxThings != 40 {
		t.Errorf("MaxThings is %d", impl.MaxThings)
	}
}

// thingField is what a thing may have in one of its lists.
type thingField[T any] struct {
	of    []T
	right bool
}

func pairFields() []thingField[impl.Pair] {
	v := num(5)
	var full []impl.Pair
	for _, w := range abc(5) {
		full = append(full, pair(w, v))
	}
	return []thingField[impl.Pair]{
		{nil, true},
		{[]impl.Pair{}, true},
		{full[:1], true},
		{full[:4], true},
		{pairs(pair("a", v), pair("ab", v), pair("b", letters(""))), true},
		{pairs(pair(word8, letters(word8))), true},
		{full, false},
		{slices.Repeat(full[:1], impl.MaxList), false},
		{slices.Repeat(full[:1], impl.MaxList+1), false},
		{pairs(pair("b", v), pair("a", v)), false},
		{pairs(pair("a", v), pair("c", v), pair("b", v)), false},
		{pairs(pair("ab", v), pair("a", v)), false},
		{pairs(pair("a", v), pair("a", v)), false},
		{pairs(pair("a", v), pair("a", num(6))), false},
		{pairs(pair("", v)), false},
		{pairs(pair(word9, v)), false},
		{pairs(pair("a", v), pair("b_", v)), false},
		{pairs(pair("A", v)), false},
		{pairs(impl.Pair{}), false},
		{pairs(pair("a", v), pair("b", impl.Value{})), false},
		{pairs(pair("a", num(1000001)), pair("b", v)), false},
	}
}

// manyAddrs are so many right addresses, rising, all of one Type that is ahead of that of diskA.
func manyAddrs(many int) []impl.Addr {
	var l []impl.Addr
	for i := range many {
		a := impl.Addr{Type: "a", Name: abc(14)[i/90], Kind: 1, N: int64(i % 90)}
		l = append(l, a)
	}
	return l
}

func needFields() []thingField[impl.Addr] {
	a, b, c := impl.Addr{Type: "a", Name: "a"}, diskB, impl.Addr{Type: "disk", Name: "a", Kind: 2, Key: "a"}
	return []thingField[impl.Addr]{
		{nil, true},
		{[]impl.Addr{}, true},
		{[]impl.Addr{a}, true},
		{[]impl.Addr{a, c, b}, true},
		{manyAddrs(impl.MaxList), true},
		{manyAddrs(impl.MaxList + 1), false},
		{[]impl.Addr{c, a}, false},
		{[]impl.Addr{a, b, c}, false},
		{[]impl.Addr{a, a}, false},
		{[]impl.Addr{a, c, c, b}, false},
		{slices.Repeat([]impl.Addr{a}, impl.MaxList), false},
		{[]impl.Addr{{}}, false},
		{[]impl.Addr{{}, a}, false},
		{[]impl.Addr{a, {}}, false},
		{[]impl.Addr{a, {Type: "disk", Name: "a", N: 1}, b}, false},
		{[]impl.Addr{home("m")}, false},
	}
}

// Whatever stands in each field of a thing: right is just what has right fields, none of them in the way of another one.
func TestThingsOfAllFields(t *testing.T) {
	for _, p := range pairFields() {
		for _, n := range needFields() {
			x := impl.Thing{Addr: diskA, Pairs: p.of, Needs: n.of}
			if got := impl.ThingRight(x); got != (p.right && n.right) {
				t.Errorf("%v: %.300q", got, told(x))
			}
			x.Addr = impl.Addr{}
			if impl.ThingRight(x) {
				t.Errorf("right, without an Addr: %.300q", told(x))
			}
		}
	}
}

func TestThingsOfAllAddrsAndValues(t *testing.T) {
	for i, x := range rightAddrs {
		for j, y := range rightAddrs {
			if got := impl.ThingRight(impl.Thing{Addr: x.addr, Needs: []impl.Addr{y.addr}}); got != (i != j) {
				t.Errorf("%s, which needs %s: %v", x.text, y.text, got)
			}
			for _, z := range rightAddrs[j:] {
				two := impl.Thing{Addr: x.addr, Needs: []impl.Addr{z.addr, y.addr}}
				if impl.ThingRight(two) {
					t.Errorf("right: %s, which needs %s and %s", x.text, z.text, y.text)
				}
			}
		}
	}
	for _, a := range wrongAddrs {
		if impl.ThingRight(impl.Thing{Addr: a}) || impl.ThingRight(impl.Thing{Addr: diskA, Needs: []impl.Addr{a}}) {
			t.Errorf("right: of or with %+v", a)
		}
	}
	for _, v := range rightValues {
		if !impl.ThingRight(impl.Thing{Addr: diskA, Pairs: pairs(pair("p", v.value))}) {
			t.Errorf("not right: with %s", v.text)
		}
	}
	for _, v := range wrongValues {
		if impl.ThingRight(impl.Thing{Addr: diskA, Pairs: pairs(pair("o", num(1)), pair("p", v))}) {
			t.Errorf("right: with %.40q", told(v))
		}
	}
}

func TestKeysOf(t *testing.T) {
	m := impl.Addr{Path: []string{"m"}, Type: "disk", Name: "a"}
	rows := []struct {
		b    impl.Block
		want string
	}{
		{block(diskA), "disk.a"},
		{block(m, one(4)...), "m/disk.a"},
		{impl.Block{Addr: m, Count: -1, Each: []string{}}, "m/disk.a"},
		{counted(m, 0), ""},
		{counted(diskA, 1), "disk.a[0]"},
		{counted(m, 2, prop("p", index)), "m/disk.a[0] m/disk.a[1]"},
		{counted(diskA, 8), "disk.a[0] disk.a[1] disk.a[2] disk.a[3] disk.a[4] disk.a[5] disk.a[6] disk.a[7]"},
		{each(m, []string{word8}), "m/disk.a[abcdefgh]"},
		{each(diskA, []string{"a", "ab", "b"}, prop("p", key)), "disk.a[a] disk.a[ab] disk.a[b]"},
		{each(diskA, abc(8)), "disk.a[a] disk.a[b] disk.a[c] disk.a[d] disk.a[e] disk.a[f] disk.a[g] disk.a[h]"},
		{each(m, []string{"n"}, prop("p", ref(impl.Addr{Type: "not", Name: "there"}, "p"))), "m/disk.a[n]"},
		{impl.Block{}, ""},
		{impl.Block{Addr: diskA, Count: -2}, ""},
		{counted(diskA, 9), ""},
		{counted(diskA, math.MaxInt64), ""},
		{counted(diskA, math.MinInt64), ""},
		{impl.Block{Addr: diskA, Count: 1, Each: []string{"a"}}, ""},
		{each(diskA, abc(9)), ""},
		{each(diskA, []string{"b", "a"}), ""},
		{each(diskA, []string{"a", "a"}), ""},
		{each(diskA, manyWords(401)), ""},
		{block(diskB), ""},
		{block(diskA, prop("p", index)), ""},
		{counted(diskA, 2, prop("p", key)), ""},
		{counted(diskA, 2, one(5)...), ""},
		{counted(diskA, 2, prop("p", ring(1, index))), ""},
		{counted(diskA, 2, prop("p", folded(index))), ""},
	}
	for _, r := range rows {
		got := impl.KeysOf(r.b)
		if orderLine(got) != r.want || r.want == "" && len(got) > 0 {
			t.Errorf("got %+v, want %s", got, r.want)
		}
	}
	for _, a := range wrongAddrs {
		if got := impl.KeysOf(counted(a, 2)); len(got) > 0 {
			t.Errorf("KeysOf of %+v: %+v", a, got)
		}
	}
}

func TestPairOf(t *testing.T) {
	for _, v := range rightValues {
		x := impl.Thing{Addr: diskA, Pairs: pairs(pair("a", num(1)), pair("b", v.value), pair("bb", letters("c")), pair(word8, num(2)))[:3]}
		wantValue(t, "a beside "+v.text, impl.PairOf(x, "a"), impl.ValueOut{Value: num(1)})
		wantValue(t, v.text, impl.PairOf(x, "b"), impl.ValueOut{Value: v.value})
		wantValue(t, "bb beside "+v.text, impl.PairOf(x, "bb"), impl.ValueOut{Value: letters("c")})
		for _, name := range []string{"", "c", "aa", "bbb", "A", "a ", "a\x00", word8, word9, strings.Repeat("a", impl.MaxBytes)} {
			wantValue(t, "no "+name, impl.PairOf(x, name), impl.ValueOut{Code: impl.ErrNone})
		}
	}
	wantValue(t, "of no Pairs", impl.PairOf(impl.Thing{Addr: diskA}, "a"), impl.ValueOut{Code: impl.ErrNone})
}

// A thing of too many Pairs or Needs, and a name too long, is told ahead of all else.
func TestPairOfFaultsInOrder(t *testing.T) {
	long := strings.Repeat("a", impl.MaxBytes+1)
	for _, a := range append([]impl.Addr{diskA}, wrongAddrs...) {
		for _, p := range pairFields() {
			for _, n := range needFields() {
				x := impl.Thing{Addr: a, Pairs: p.of, Needs: n.of}
				big := len(p.of) > impl.MaxList || len(n.of) > impl.MaxList
				wantValue(t, "a name too long", impl.PairOf(x, long), impl.ValueOut{Code: impl.ErrSize})
				for _, name := range []string{"a", "b", "", word9} {
					want := impl.ValueOut{Code: impl.ErrNone}
					at := slices.IndexFunc(p.of, func(p impl.Pair) bool { return p.Name == name })
					switch {
					case big:
						want.Code = impl.ErrSize
					case !impl.ThingRight(x):
						want.Code = impl.ErrForm
					case at >= 0:
						want = impl.ValueOut{Value: p.of[at].Value}
					}
					wantValue(t, "PairOf "+name, impl.PairOf(x, name), want)
				}
			}
		}
	}
}

// wantOrder checks that l is handed back, with this order of it.
func wantOrder(t *testing.T, l []impl.Thing, want string) {
	t.Helper()
	out := impl.OrderOf(l)
	what := "OrderOf " + thingLines(l)
	wantExpand(t, what, out, impl.ExpandOut{Things: l, Order: out.Order})
	if got := orderLine(out.Order); got != want {
		t.Errorf("%s: got %s, want %s", what, got, want)
	}
	checkOrder(t, what, out)
}

// checkOrderTold checks the order of right things by the words of the document.
func checkOrderTold(t *testing.T, l []impl.Thing) int64 {
	t.Helper()
	want := impl.ExpandOut{Things: l, Order: orderTold(l)}
	if len(want.Order) < len(l) {
		want = impl.ExpandOut{Code: impl.ErrState}
	}
	out := impl.OrderOf(l)
	wantExpand(t, "OrderOf "+thingLines(l), out, want)
	if out.Code == impl.OK {
		checkOrder(t, thingLines(l), out)
	}
	return out.Code
}

func TestOrderOf(t *testing.T) {
	rows := [][]string{
		{""},
		{"a.a", "a.a"},
		{"a.a a.b b.a", "a.a", "a.b", "b.a"},
		// What is needed, but is not among them, is waited for by none.
		{"a.b", "a.b z.z"},
		{"a.b", "a.b a.a a.c"},
		{"a.a a.b", "a.a m/a.a", "a.b a.a[0] m/a.a"},
		{"a.a a.b", "a.a a.b[0]", "a.b a.a[a]"},
		// Rows, along the order of the addresses and against it.
		{"a.a a.b a.c", "a.a", "a.b a.a", "a.c a.b"},
		{"a.c a.b a.a", "a.a a.b", "a.b a.c", "a.c"},
		{"a.b a.c a.a", "a.a a.c", "a.b", "a.c a.b"},
		// Where several may go, the least does, also ahead of what waits for longer.
		{"a.b a.a a.c", "a.a a.b", "a.b", "a.c"},
		{"a.b a.c a.a a.d", "a.a a.b a.c", "a.b", "a.c", "a.d"},
		{"a.c a.a a.d a.b a.e", "a.a a.c", "a.b a.d", "a.c", "a.d", "a.e"},
		{"a.d a.a a.b a.c", "a.a a.d", "a.b a.d", "a.c a.d", "a.d"},
		// Diamonds.
		{"a.a a.b a.c a.d", "a.a", "a.b a.a", "a.c a.a", "a.d a.b a.c"},
		{"a.d a.b a.c a.a", "a.a a.b a.c", "a.b a.d", "a.c a.d", "a.d"},
		{"a.c a.b a.d a.a", "a.a a.b a.d", "a.b a.c", "a.c", "a.d a.c"},
		// By the order of addresses, not of their texts.
		{"a.a[2] a.a[10] a.a[a] z.z a/a.a", "a.a[2]", "a.a[10]", "a.a[a]", "z.z", "a/a.a"},
		{"a.a[10] a.a[2] z.z a/a.a", "a.a[2] a.a[10]", "a.a[10]", "z.z", "a/a.a"},
	}
	for _, r := range rows {
		wantOrder(t, things(t, r[1:]...), r[0])
	}
	wantOrder(t, []impl.Thing{}, "")
}

func TestRings(t *testing.T) {
	rows := [][]string{
		{"a.a a.b", "a.b a.a"},
		{"a.a a.b", "a.b a.c", "a.c a.a"},
		{"a.a a.d", "a.b a.a", "a.c a.b", "a.d a.c"},
		{"a.a", "a.b a.c", "a.c a.b"},
		{"a.a a.b", "a.b a.a", "a.c"},
		{"a.a a.b", "a.b a.c", "a.c a.b"},
		{"a.a", "a.b a.a a.c", "a.c a.a a.b"},
		{"a.a a.b", "a.b a.a", "a.c a.d", "a.d a.c"},
		{"a.a a.b", "a.b a.a", "a.c a.a z.z"},
	}
	for _, r := range rows {
		wantExpand(t, fmt.Sprint(r), impl.OrderOf(things(t, r...)), impl.ExpandOut{Code: impl.ErrState})
	}
	// A ring of one is not right.
	wantExpand(t, "a ring of one", impl.OrderOf(things(t, "a.a", "a.b a.b")), impl.ExpandOut{Code: impl.ErrForm})
}

// All ways in which four things may need each other.
func TestOrdersOfFour(t *testing.T) {
	names := []string{"a.a", "a.a[0]", "b.a", "m/a.a"}
	codes := map[int64]int{}
	for bits := range 1 << 12 {
		var l []impl.Thing
		at := 0
		for i, name := range names {
			var needs []string
			for j, other := range names {
				if i == j {
					continue
				}
				if bits>>at&1 == 1 {
					needs = append(needs, other)
				}
				at++
			}
			l = append(l, thing(t, name, needs...))
		}
		codes[checkOrderTold(t, l)]++
	}
	if codes[impl.OK] != 543 || codes[impl.ErrState] != 4096-543 {
		t.Errorf("the codes are %v", codes)
	}
}

// As many things as there may be, each with chance Needs, among them and not.
func TestOrdersOfMany(t *testing.T) {
	c := chance{Rand: rand.New(rand.NewSource(6))}
	all := manyAddrs(impl.MaxThings + 20)
	codes := map[int64]int{}
	for range 2000 {
		places := c.Perm(len(all))[:1+c.Intn(impl.MaxThings)]
		slices.Sort(places)
		ranks := c.Perm(len(all))
		wild := 1 + c.Intn(400)
		var l []impl.Thing
		for _, at := range places {
			x := impl.Thing{Addr: all[at]}
			for other, a := range all {
				if other != at && (ranks[other] < ranks[at] && c.Intn(12) == 0 || c.Intn(wild) == 1) {
					x.Needs = append(x.Needs, a)
				}
			}
			l = append(l, x)
		}
		codes[checkOrderTold(t, l)]++
	}
	if codes[impl.OK] < 200 || codes[impl.ErrState] < 200 {
		t.Errorf("the codes are %v", codes)
	}
}

// bareThings are so many right things, rising; of more than 400 they are not.
func bareThings(many int) []impl.Thing {
	var l []impl.Thing
	for _, a := range manyAddrs(min(many, impl.MaxList)) {
		l = append(l, impl.Thing{Addr: a})
	}
	return append(l, make([]impl.Thing, max(0, many-impl.MaxList))...)
}

func TestOrderOfLimits(t *testing.T) {
	for _, many := range []int{0, 1, 39, 40, 41, 42, 80, 399, 400, 401, 402, 1000} {
		l := bareThings(many)
		want := impl.ExpandOut{Things: l}
		for _, x := range l {
			want.Order = append(want.Order, x.Addr)
		}
		switch {
		case many > 400:
			want = impl.ExpandOut{Code: impl.ErrSize}
		case many > 40:
			want = impl.ExpandOut{Code: impl.ErrForm}
		}
		wantExpand(t, fmt.Sprint(many), impl.OrderOf(l), want)
		if many > 0 {
			wantExpand(t, fmt.Sprint(many), impl.OrderOf(make([]impl.Thing, many)), impl.ExpandOut{Code: max(want.Code, impl.ErrForm)})
		}
	}
	row := bareThings(impl.MaxThings)
	for i := range row[1:] {
		row[i].Needs = []impl.Addr{row[i+1].Addr}
	}
	if code := checkOrderTold(t, row); code != impl.OK {
		t.Errorf("a row of 40: code %d", code)
	}
	row[39].Needs = []impl.Addr{row[0].Addr}
	if code := checkOrderTold(t, row); code != impl.ErrState {
		t.Errorf("a ring of 40: code %d", code)
	}
}

// Things that are not right, or do not rise, are told ahead of rings; a list within a list is not one that is handed in.
func TestOrderOfFaultsInOrder(t *testing.T) {
	ringed := things(t, "a.a a.b", "a.b a.a", "b.a", "b.b")
	wrong := map[string][]impl.Thing{
		"do not rise": things(t, "a.b", "a.a"),
		"are alike":   things(t, "a.a", "a.a"),
		"differ only in what is no Addr": {
			{Addr: diskA, Pairs: pairs(pair("a", num(1)))},
			{Addr: diskA, Pairs: pairs(pair("a", num(2))), Needs: []impl.Addr{diskB}}},
		"do not rise, of a ring":   {ringed[1], ringed[0]},
		"are alike, behind a ring": append(slices.Clone(ringed), ringed[3]),
		"do not rise at the end":   {ringed[0], ringed[1], ringed[3], ringed[2]},
		"zero":                     {{}},
		"zero, behind a ring":      append(slices.Clone(ringed), impl.Thing{}),
	}
	for i, p := range pairFields() {
		for j, n := range needFields() {
			if p.right && n.right {
				wantOrder(t, []impl.Thing{{Addr: diskA, Pairs: p.of, Needs: n.of}}, "disk.a")
				continue
			}
			x := impl.Thing{Addr: impl.Addr{Path: []string{"z"}, Type: "z", Name: "z"}, Pairs: p.of, Needs: n.of}
			wrong[fmt.Sprint("fields ", i, j)] = []impl.Thing{x}
			wrong[fmt.Sprint("behind a ring, fields ", i, j)] = append(slices.Clone(ringed), x)
		}
	}
	for i, a := range wrongAddrs {
		wrong[fmt.Sprint("addr ", i)] = []impl.Thing{{Addr: a}}
		wrong[fmt.Sprint("need ", i)] = []impl.Thing{{Addr: diskA, Needs: []impl.Addr{a}}}
		wrong[fmt.Sprint("behind a ring, addr ", i)] = append(slices.Clone(ringed), impl.Thing{Addr: a})
	}
	for what, l := range wrong {
		wantExpand(t, what, impl.OrderOf(l), impl.ExpandOut{Code: impl.ErrForm})
	}
}

// Promise 6: just the instances, each with its Needs and its Pairs, and the order of them.
func TestExpand(t *testing.T) {
	rows := []struct{ text, things, order string }{
		{"", "", ""},
		{"thing d.a\n", "d.a\n", "d.a"},
		{"thing d.a count 0\n", "", ""},
		{"thing d.a count 0\n  x = (\"a\" + 1)\n  y = @d.a:x\n  z = @no.no:no\n", "", ""},
		{"moved d.b d.a\nmovedhome m n\n", "", ""},
		{"thing d.a\n  x = 1\nmoved d.b d.a\nmovedall d.a d.b\n", "d.a x=1\n", "d.a"},
		{"thing d.a\n  a = -1000000\n  b = 1000000\n  c = \"\"\n  d = \"abcd0129\"\n", "d.a a=-1000000 b=1000000 c=\"\" d=\"abcd0129\"\n", "d.a"},
		{"thing d.a count 1\n  x = #\n", "d.a[0] x=0\n", "d.a[0]"},
		{"thing d.a count 3\n  x = #\n  y = (# + (# + 10))\n", "d.a[0] x=0 y=10\nd.a[1] x=1 y=12\nd.a[2] x=2 y=14\n", "d.a[0] d.a[1] d.a[2]"},
		{"thing d.a each a,abcdefgh,b\n  x = $\n  y = 7\n", "d.a[a] x=\"a\" y=7\nd.a[abcdefgh] x=\"abcdefgh\" y=7\nd.a[b] x=\"b\" y=7\n", "d.a[a] d.a[abcdefgh] d.a[b]"},
		{"thing d.a\nthing z.a\nthing m/a.a\nthing m/n/a.a\n", "d.a\nz.a\nm/a.a\nm/n/a.a\n", "d.a z.a m/a.a m/n/a.a"},
		// What is told by another one: whatever its kind, and whichever of its Props.
		{"thing d.a\n  x = 5\nthing d.b\n  y = @d.a:x\n", "d.a x=5\nd.b y=5 <d.a\n", "d.a d.b"},
		{"thing d.a\n  y = @d.b:x\nthing d.b\n  x = \"t\"\n", "d.a y=\"t\" <d.b\nd.b x=\"t\"\n", "d.b d.a"},
		{"thing d.a\n  x = @d.b:q\n  y = @d.b:p\nthing d.b\n  p = 1\n  q = 2\n", "d.a x=2 y=1 <d.b\nd.b p=1 q=2\n", "d.b d.a"},
		{"thing d.a count 2\n  x = (# + 1)\nthing n.b\n  x = (@d.a[1]:x + @d.a[0]:x)\n", "d.a[0] x=1\nd.a[1] x=2\nn.b x=3 <d.a[0] <d.a[1]\n", "d.a[0] d.a[1] n.b"},
		{"thing d.a each k,l\n  x = $\nthing d.b count 2\n  x = @d.a[l]:x\n", "d.a[k] x=\"k\"\nd.a[l] x=\"l\"\nd.b[0] x=\"l\" <d.a[l]\nd.b[1] x=\"l\" <d.a[l]\n", "d.a[k] d.a[l] d.b[0] d.b[1]"},
		{"thing d.a\n  x = 1\nthing m/d.a\n  x = 2\nthing m/n/d.a\n  x = (@m/d.a:x + (@d.a:x + @d.a:x))\n", "d.a x=1\nm/d.a x=2\nm/n/d.a x=4 <d.a <m/d.a\n", "d.a m/d.a m/n/d.a"},
		// Rows against the order of the addresses, and a sum of what sums tell.
		{"thing d.a\n  x = (@d.b:x + 1)\nthing d.b\n  x = (@d.c:x + 1)\nthing d.c\n  x = 1\n", "d.a x=3 <d.b\nd.b x=2 <d.c\nd.c x=1\n", "d.c d.b d.a"},
		{"thing d.a\n  x = (@d.b:x + @d.c:x)\nthing d.b\n  x = @d.d:x\nthing d.c\n  x = (@d.d:x + @d.d:y)\nthing d.d\n  x = 1\n  y = -2\n",
			"d.a x=0 <d.b <d.c\nd.b x=1 <d.d\nd.c x=-1 <d.d\nd.d x=1 y=-2\n", "d.d d.b d.c d.a"},
		{"thing d.a\n  x = @z.z:x\nthing d.b\nthing z.z\n  x = 1\nthing z.zz\n", "d.a x=1 <z.z\nd.b\nz.z x=1\nz.zz\n", "d.b z.z d.a z.zz"},
		// The Needs of all Props together, each once, rising by their order.
		{"thing a.z\n  p = (@m/d.a:x + @d.b:x)\n  q = (@d.a[1]:x + @d.b:y)\n  r = 1\n  s = @d.b:x\nthing d.a count 2\n  x = #\nthing d.b\n  x = 3\n  y = 4\nthing m/d.a\n  x = 5\n",
			"a.z p=8 q=5 r=1 s=3 <d.a[1] <d.b <m/d.a\nd.a[0] x=0\nd.a[1] x=1\nd.b x=3 y=4\nm/d.a x=5\n", "d.a[0] d.a[1] d.b m/d.a a.z"},
		// Sums up to their limits.
		{"thing d.a\n  x = (999999 + 1)\n  y = (-999999 + -1)\n  z = (1000000 + (1 + -1))\n", "d.a x=1000000 y=-1000000 z=1000000\n", "d.a"},
		{"thing d.a count 1\n  x = (# + 1000000)\n", "d.a[0] x=1000000\n", "d.a[0]"},
		{"thing d.a\n  x = ((1 + 2) + (4 + (8 + 16)))\n", "d.a x=31\n", "d.a"},
	}
	for _, r := range rows {
		c := readConfig(t, r.text)
		out := impl.Expand(c)
		if out.Code != impl.OK || thingLines(out.Things) != r.things || orderLine(out.Order) != r.order {
			t.Errorf("%q: code %d, %q, %q", r.text, out.Code, thingLines(out.Things), orderLine(out.Order))
		}
		wantExpand(t, r.text, out, expandTold(c))
		checkExpand(t, c, out)
	}
}

func wantExpandCode(t *testing.T, text string, code int64) {
	t.Helper()
	c := readConfig(t, text)
	wantExpand(t, text, impl.Expand(c), impl.ExpandOut{Code: code})
	wantExpand(t, "as foretold: "+text, expandTold(c), impl.ExpandOut{Code: code})
}

// What is referred to must be an instance, and have such a Prop.
func TestExpandOfWhatIsNone(t *testing.T) {
	one, two, keyed := "thing d.a\n  x = 1\n", "thing d.a count 2\n  x = 1\n", "thing d.a each k,l\n  x = 1\n"
	rows := [][]string{
		{one, "d.b:x", "d.a:y", "d.a:xx", "d.a[0]:x", "d.a[a]:x", "m/d.a:x", "d.aa:x", "da.a:x", "z.z:z", "d.a:z"},
		{two, "d.a:x", "d.a[2]:x", "d.a[99]:x", "d.a[a]:x", "m/d.a[0]:x", "d.a[0]:y", "d.b[0]:x"},
		{keyed, "d.a:x", "d.a[0]:x", "d.a[m]:x", "d.a[kl]:x", "d.a[k]:y", "m/d.a[k]:x"},
		{"thing d.a count 0\n  x = 1\n", "d.a:x", "d.a[0]:x"},
		{"thing d.a count 8\n  x = 1\n", "d.a[8]:x"},
		{"thing m/n/d.a\n  x = 1\n", "d.a:x", "m/d.a:x", "n/d.a:x", "n/m/d.a:x", "m/n/d.b:x"},
	}
	for _, r := range rows {
		for _, told := range r[1:] {
			for _, expr := range []string{"@" + told, "(1 + @" + told + ")", "((@" + told + " + 1) + 2)"} {
				props := "\n  y = 1\n  z = " + expr + "\n"
				wantExpandCode(t, "thing a.a"+props+r[0], impl.ErrNone)
				wantExpandCode(t, r[0]+"thing m/n/z.z"+props, impl.ErrNone)
				wantExpandCode(t, "thing a.a\n  z = 1\nthing a.b each a,b"+props+r[0], impl.ErrNone)
			}
		}
	}
}

// A sum of each fault that only a sum has.
const (
	kindSum  = `("a" + 1)`
	rangeSum = "(1000000 + 1)"
)

// noneTexts refer to what is none: also to that of their own Addr, and whatever else is wrong with them.
var noneTexts = []string{
	// Its own Addr, without such a Prop, or without such an instance.
	"thing d.a\n  x = @d.a:y\n",
	"thing d.a count 1\n  x = @d.a:x\n",
	"thing d.a count 1\n  x = @d.a[1]:x\n",
	"thing d.a each k\n  x = @d.a[l]:x\n",
	"thing d.a count 2\n  x = @d.a[0]:y\n",
	// Ahead of all states, wherever they stand.
	"thing d.a\n  x = @d.a:x\n  y = @d.a:z\n",
	"thing d.a\n  x = @d.a:z\n  y = @d.a:x\n",
	"thing d.a\n  x = @d.a:x\nthing d.b\n  x = @d.c:x\n",
	"thing d.a\n  x = @d.c:x\nthing d.b\n  x = @d.b:x\n",
	"thing d.a\n  x = @d.b:x\nthing d.b\n  x = @d.a:x\nthing d.c\n  x = @d.d:x\n",
	"thing d.a\n  x = (@d.a:x + @d.b:x)\n",
	"thing d.a\n  x = (@d.b:x + @d.a:x)\n",
	// Ahead of what no sum tells.
	"thing d.a\n  x = " + kindSum + "\nthing d.b\n  x = @d.c:x\n",
	"thing d.a\n  x = " + rangeSum + "\n  y = @d.b:x\n",
}

// stateTexts have rings: of one, two and more, and whatever else is wrong with what they tell.
var stateTexts = []string{
	"thing d.a\n  x = @d.a:x\n",
	"thing d.a\n  x = 1\n  y = @d.a:x\n",
	"thing d.a\n  x = @d.a:y\n  y = 1\n",
	"thing d.a\n  x = (1 + (@d.a:x + 1))\n",
	"thing d.a count 1\n  x = @d.a[0]:x\n",
	"thing d.a count 2\n  x = @d.a[1]:x\n",
	"thing d.a each k,l\n  x = 1\n  y = @d.a[k]:x\n",
	"thing d.a\n  x = @d.b:x\nthing d.b\n  x = @d.a:x\n",
	"thing d.a\n  x = 1\n  y = @d.b:y\nthing d.b\n  x = @d.a:x\n  y = 1\n",
	"thing d.a\n  x = @d.b:x\nthing d.b\n  x = @d.c:x\nthing d.c\n  x = @d.a:x\n",
	"thing a.a\n  x = @d.b:x\nthing d.b\n  x = @d.c:x\nthing d.c\n  x = @d.b:x\nthing z.z\n",
	"thing d.a count 2\n  x = @d.b:x\nthing d.b\n  x = @d.a[1]:x\n",
	// Ahead of what no sum tells, even of what is made first.
	"thing a.a\n  x = " + kindSum + "\nthing d.a\n  x = @d.a:x\n",
	"thing a.a\n  x = " + rangeSum + "\nthing d.a\n  x = @d.b:x\nthing d.b\n  x = @d.a:x\n",
	"thing d.a\n  x = " + kindSum + "\n  y = @d.a:x\n",
}

// kindTexts add what is no number; of several faults this is the first one.
var kindTexts = []string{
	"thing d.a\n  x = " + kindSum + "\n",
	"thing d.a\n  x = (1 + \"a\")\n",
	"thing d.a\n  x = (\"a\" + \"b\")\n",
	"thing d.a\n  x = (\"\" + 0)\n",
	"thing d.a\n  x = (\"1\" + 1)\n",
	"thing d.a\n  x = (1000000 + \"a\")\n",
	"thing d.a each k\n  x = ($ + 1)\n",
	"thing d.a each k\n  x = ($ + $)\n",
	"thing d.a\n  x = \"a\"\nthing d.b\n  x = (@d.a:x + 1)\n",
	// Of several the first one: of the things in their Order, of the Props, of both Args ahead of their sum.
	"thing d.a\n  x = " + kindSum + "\nthing d.b\n  x = " + rangeSum + "\n",
	"thing d.a\n  x = (@d.b:x + 1000000)\nthing d.b\n  x = 1\n  y = " + kindSum + "\n",
	"thing d.a\n  x = " + kindSum + "\n  y = " + rangeSum + "\n",
	"thing d.a\n  x = (" + kindSum + " + " + rangeSum + ")\n",
	"thing d.a\n  x = (1 + (" + kindSum + " + " + rangeSum + "))\n",
	"thing d.a\n  x = ((1 + " + kindSum + ") + " + rangeSum + ")\n",
	"thing d.a\n  x = (1000000 + " + kindSum + ")\n",
}

// rangeTexts add up to what is too large, or too small; of several faults this is the first one.
var rangeTexts = []string{
	"thing d.a\n  x = " + rangeSum + "\n",
	"thing d.a\n  x = (-1000000 + -1)\n",
	"thing d.a\n  x = (1000000 + 1000000)\n",
	"thing d.a\n  x = (" + rangeSum + " + -1)\n",
	"thing d.a\n  x = (-1 + " + rangeSum + ")\n",
	"thing d.a count 2\n  x = (# + 1000000)\n",
	"thing d.a\n  x = 600000\nthing d.b\n  x = (@d.a:x + @d.a:x)\n",
	"thing d.a\n  x = " + rangeSum + "\nthing d.b\n  x = " + kindSum + "\n",
	"thing d.a\n  x = (@d.b:x + \"a\")\nthing d.b\n  x = " + rangeSum + "\n",
	"thing d.a\n  x = (@d.b:x + \"a\")\nthing d.b\n  x = 1\n  y = " + rangeSum + "\n",
	"thing d.a\n  x = " + rangeSum + "\n  y = " + kindSum + "\n",
	"thing d.a\n  x = (" + rangeSum + " + " + kindSum + ")\n",
	"thing d.a\n  x = (\"a\" + " + rangeSum + ")\n",
	"thing d.a\n  x = (" + rangeSum + " + \"a\")\n",
	"thing d.a\n  x = ((1 + " + rangeSum + ") + " + kindSum + ")\n",
	"thing d.a count 2\n  x = (# + 1000000)\nthing d.b\n  x = " + kindSum + "\n",
}

// Which code is told where several could be, and that of each alone.
func TestExpandFaultsInOrder(t *testing.T) {
	for code, texts := range map[int64][]string{impl.ErrNone: noneTexts, impl.ErrState: stateTexts, impl.ErrKind: kindTexts, impl.ErrRange: rangeTexts} {
		for _, text := range texts {
			wantExpandCode(t, text, code)
		}
	}
}

// full is a config of 12 blocks and so many instances, at most 96; its last block, which may have none, tells this.
func full(t *testing.T, many int, expr string) impl.Config {
	t.Helper()
	text := ""
	for _, w := range abc(12) {
		left := min(8, many)
		text += fmt.Sprintf("thing disk.%s count %d\n", w, left)
		many -= left
	}
	return readConfig(t, text+"  x = 1\n  y = "+expr+"\n")
}

// So many things are told, and one more is not; what is not right is told ahead of that, and all else behind it.
func TestExpandLimits(t *testing.T) {
	for many := range 97 {
		c := full(t, many, "1")
		out := impl.Expand(c)
		if many > impl.MaxThings {
			wantExpand(t, fmt.Sprint(many), out, impl.ExpandOut{Code: impl.ErrFull})
			continue
		}
		wantExpand(t, fmt.Sprint(many), out, expandTold(c))
		checkExpand(t, c, out)
		if len(out.Things) != many {
			t.Errorf("%d things of %d instances", len(out.Things), many)
		}
	}
	words := strings.Join(abc(8), ",")
	for _, last := range []string{"thing z.z\n  x = %s\n", "thing z.z count 1\n  x = %s\n", "thing z.z each a\n  x = %s\n"} {
		for _, r := range []struct {
			expr string
			code int64
		}{{"1", impl.OK}, {"@no.no:no", impl.ErrNone}, {"@a.a[a]:x", impl.ErrNone}, {"(\"a\" + 1)", impl.ErrKind}, {"(1000000 + 1)", impl.ErrRange}} {
			text := ""
			for _, w := range abc(4) {
				text += "thing a." + w + " each " + words + "\n"
			}
			seven := text + "thing b.a count 7\n" + fmt.Sprintf(last, r.expr)
			eight := text + "thing b.a count 8\n" + fmt.Sprintf(last, r.expr)
			if got := impl.Expand(readConfig(t, seven)).Code; got != r.code {
				t.Errorf("40 instances, and %s: code %d", r.expr, got)
			}
			wantExpandCode(t, eight, impl.ErrFull)
		}
	}
	for many := range 13 {
		l, _ := manyBlocks(many)
		wantExpand(t, "many blocks", impl.Expand(blocks(l...)), expandTold(blocks(l...)))
	}
}

// What is handed in and is not right is told ahead of all, but for what is too large.
func TestExpandOfWhatIsNotRight(t *testing.T) {
	none := block(diskA, prop("p", ref(bareB(), "q")))
	fullest := full(t, 96, "@no.no:no").Blocks
	b, m := slices.Repeat([]impl.Block{none}, 402), slices.Repeat([]impl.Move{{Kind: 2, From: bareB(), To: diskA}}, 402)
	l, _ := manyBlocks(13)
	rows := []struct {
		what string
		c    impl.Config
		code int64
	}{
		{"no Addr", blocks(impl.Block{}), impl.ErrForm},
		{"a block that is not right, beside what is none", blocks(none, impl.Block{}), impl.ErrForm},
		{"a block that is not right, ahead of what is none", blocks(impl.Block{}, none), impl.ErrForm},
		{"blocks that are alike", blocks(none, none), impl.ErrForm},
		{"blocks that do not rise", blocks(block(bareB()), none), impl.ErrForm},
		{"too many instances, and a move that is not right", impl.Config{Blocks: fullest, Moves: []impl.Move{{}}}, impl.ErrForm},
		{"too many instances, and a count that is not right", blocks(append(slices.Clone(fullest[:11]), counted(fullest[11].Addr, 9))...), impl.ErrForm},
		{"too many instances", blocks(fullest...), impl.ErrFull},
		{"13 blocks", blocks(l...), impl.ErrForm},
		{"13 moves", impl.Config{Blocks: fullest, Moves: m[:13]}, impl.ErrForm},
		{"12 moves", impl.Config{Blocks: fullest, Moves: m[:12]}, impl.ErrFull},
		{"an index without a count", blocks(block(diskA, prop("p", index))), impl.ErrForm},
		{"a key without each", blocks(counted(diskA, 1, prop("p", key))), impl.ErrForm},
		{"5 props", blocks(block(diskA, one(5)...)), impl.ErrForm},
		{"a sum too deep", single(sum(sum(sum(sum(index, index), index), index), index)), impl.ErrForm},
		{"a sum that stands within itself", single(ring(1, index)), impl.ErrForm},
		{"a folded sum", single(folded(ref(diskA, "p"))), impl.ErrForm},
		{"400 blocks", blocks(b[:400]...), impl.ErrForm},
		{"400 moves", moves(m[:400]...), impl.ErrForm},
		{"400 of both", impl.Config{Blocks: b[:400], Moves: m[:400]}, impl.ErrForm},
		{"401 blocks", blocks(b[:401]...), impl.ErrSize},
		{"401 moves", moves(m[:401]...), impl.ErrSize},
		{"401 moves, and no right block", impl.Config{Blocks: make([]impl.Block, 3), Moves: m[:401]}, impl.ErrSize},
		{"401 blocks, and no right move", impl.Config{Blocks: b[:401], Moves: make([]impl.Move, 3)}, impl.ErrSize},
		{"401 zero blocks", blocks(make([]impl.Block, 401)...), impl.ErrSize},
		{"402 of both", impl.Config{Blocks: b, Moves: m}, impl.ErrSize},
		{"401 words", blocks(each(diskA, manyWords(401))), impl.ErrForm},
		{"401 props", blocks(block(diskA, slices.Repeat(one(1), 401)...)), impl.ErrForm},
	}
	for _, r := range rows {
		wantExpand(t, r.what, impl.Expand(r.c), impl.ExpandOut{Code: r.code})
	}
	for _, a := range wrongAddrs {
		for _, c := range []impl.Config{blocks(block(a)), blocks(none, block(impl.Addr{Path: []string{"z"}, Type: "z", Name: "z"}, prop("p", ref(a, "q"))))} {
			wantExpand(t, told(a), impl.Expand(c), impl.ExpandOut{Code: impl.ErrForm})
		}
	}
	for _, turn := range turns {
		c := fullConfig()
		turn(&c)
		if !impl.ConfigRight(c) {
			wantExpand(t, told(c), impl.Expand(c), impl.ExpandOut{Code: impl.ErrForm})
		}
	}
}

// All pairs of blocks that refer to each other, or to themselves, in these ways.
func TestExpandOfPairsOfBlocks(t *testing.T) {
	exprs := []string{"1", "\"a\"", "@d.a:x", "@d.a[0]:x", "@d.a[a]:x", "@d.b:x", "@d.b[1]:x", "@d.b[b]:x", "@d.b:y", "(@d.b:y + 1)", "(@d.a:y + @d.b:x)", "(600000 + @d.a:y)"}
	keys := []string{"", " count 0", " count 1", " count 2", " each a", " each a,b"}
	codes := map[int64]int{}
	for _, first := range keys {
		for _, second := range keys {
			for _, x := range exprs {
				for _, y := range exprs {
					c := readConfig(t, "thing d.a"+first+"\n  x = "+x+"\n  y = 500000\nthing d.b"+second+"\n  x = 1\n  y = "+y+"\n")
					out := impl.Expand(c)
					wantExpand(t, impl.ConfigText(c), out, expandTold(c))
					codes[out.Code]++
				}
			}
		}
	}
	for _, code := range []int64{impl.OK, impl.ErrNone, impl.ErrState, impl.ErrKind, impl.ErrRange} {
		if codes[code] < 5 {
			t.Errorf("the codes are %v", codes)
		}
	}
}

// Configs of all kinds come to what the document says, told in another way than the program does.
func TestExpandOfChanceConfigs(t *testing.T) {
	codes := map[int64]int{}
	for seed := range int64(12000) {
		c := chance{Rand: rand.New(rand.NewSource(seed)), wild: 2 + int(seed%60)}.config()
		if !impl.ConfigRight(c) {
			t.Fatalf("not right: %+v", c)
		}
		out := impl.Expand(c)
		codes[out.Code]++
		wantExpand(t, impl.ConfigText(c), out, expandTold(c))
		if out.Code == impl.OK {
			checkExpand(t, c, out)
			wantExpand(t, "the order of "+impl.ConfigText(c), impl.OrderOf(out.Things), out)
		}
	}
	for _, code := range []int64{impl.OK, impl.ErrNone, impl.ErrState, impl.ErrKind, impl.ErrRange, impl.ErrFull} {
		if codes[code] < 200 {
			t.Errorf("the codes are %v", codes)
		}
	}
}

// roomyThings are right things with room behind each of their lists, in new memory.
func roomyThings() []impl.Thing {
	a := func(name string) impl.Addr {
		return impl.Addr{Path: roomy("m", "n"), Type: "disk", Name: name}
	}
	l := append(make([]impl.Thing, 0, 6), impl.Thing{Addr: a("a")}, impl.Thing{Addr: a("b")}, impl.Thing{Addr: a("left")})[:2]
	l[0].Pairs = append(make([]impl.Pair, 0, 6), pair("p", num(1)), pair("q", letters("b")), pair("left", num(2)))[:2]
	l[0].Needs = append(make([]impl.Addr, 0, 6), a("b"), a("c"), a("left"))[:2]
	l[1].Pairs = append(make([]impl.Pair, 0, 6), pair("p", letters("c")))
	l[1].Needs = append(make([]impl.Addr, 0, 6), a("c"), a("d"))
	return l
}

// roomyConfig comes to three things, and has room behind each of its lists.
func roomyConfig() impl.Config {
	c := fullConfig()
	c.Blocks[1].Props[0].Expr = sum(ref(impl.Addr{Path: roomy("m", "n"), Type: "disk", Name: "a", Kind: 1, N: 1}, "q"), tells(num(1)))
	c.Blocks[1].Props = append(c.Blocks[1].Props, prop("q", key), prop("r", tells(letters("t"))))
	c.Blocks[0].Props[0].Expr = sum(ref(impl.Addr{Path: roomy("m", "n"), Type: "net", Name: "a"}, "p"), index)
	net := block(impl.Addr{Path: roomy("m", "n"), Type: "net", Name: "a"}, prop("p", tells(num(1))))
	c.Blocks = append(c.Blocks[:2], net)
	return c
}

// thingMemory is all that stands in the memory of things, also behind the ends of their lists.
func thingMemory(l []impl.Thing) []any {
	all := []any{l[:cap(l)]}
	for _, x := range l {
		all = append(all, x.Addr.Path[:cap(x.Addr.Path)], x.Pairs[:cap(x.Pairs)], x.Needs[:cap(x.Needs)])
		for _, need := range x.Needs {
			all = append(all, need.Path[:cap(need.Path)])
		}
	}
	return all
}

func configMemory(c impl.Config) []any {
	all := []any{c.Blocks[:cap(c.Blocks)], c.Moves[:cap(c.Moves)]}
	for _, b := range c.Blocks {
		all = append(all, b.Addr.Path[:cap(b.Addr.Path)], b.Each[:cap(b.Each)], b.Props[:cap(b.Props)])
		for _, p := range b.Props {
			all = append(all, p.Expr.Addr.Path[:cap(p.Expr.Addr.Path)], p.Expr.Args[:cap(p.Expr.Args)])
			for _, arg := range p.Expr.Args {
				all = append(all, arg.Addr.Path[:cap(arg.Addr.Path)])
			}
		}
	}
	return all
}

// No call changes what is handed in, nor what stands behind it in its memory, whatever it tells.
func TestExpandArgumentsStay(t *testing.T) {
	for _, turn := range append(turns, func(*impl.Config) {}) {
		for _, c := range []impl.Config{fullConfig(), roomyConfig()} {
			turn(&c)
			before := told(configMemory(c))
			impl.Expand(c)
			for _, b := range c.Blocks {
				impl.KeysOf(b)
			}
			if after := told(configMemory(c)); after != before {
				t.Errorf("got %s, want %s", after, before)
			}
		}
	}
	ringed, falling := roomyThings(), roomyThings()
	ringed[1].Needs[0].Name, ringed[1].Needs[1].Name = "a", "c"
	slices.Reverse(falling)
	for _, l := range [][]impl.Thing{roomyThings(), ringed, falling} {
		before := told(thingMemory(l))
		impl.OrderOf(l)
		for _, x := range l {
			impl.ThingRight(x)
			impl.PairOf(x, "p")
			impl.PairOf(x, "z")
		}
		if after := told(thingMemory(l)); after != before {
			t.Errorf("got %s, want %s", after, before)
		}
	}
}

// checkApart checks that no text in an answer is in the memory of one that was handed in.
func checkApart(t *testing.T, answer any, given any) {
	t.Helper()
	_, texts := spansOf(answer, "answer")
	_, old := spansOf(given, "given")
	for _, s := range texts {
		for _, o := range old {
			if s.from < s.end && s.meets(o) {
				t.Errorf("%s shares memory with %s", s.what, o.what)
			}
		}
	}
}

// No two lists of an answer share memory, nor with what was handed in; whoever writes to an answer changes nothing else.
func TestExpandAnswersAreNewMemory(t *testing.T) {
	c, l := roomyConfig(), roomyThings()
	before, want := told([]any{configMemory(c), thingMemory(l)}), told([]any{impl.Expand(c), impl.OrderOf(l)})
	answers := []impl.ExpandOut{impl.Expand(c), impl.Expand(c), impl.OrderOf(l), impl.OrderOf(l)}
	for i, out := range answers {
		if out.Code != impl.OK || len(out.Things) < 2 || len(out.Order) < 2 || len(out.Things[0].Needs) == 0 || len(out.Things[0].Pairs) == 0 {
			t.Errorf("%d tells too little: %+v", i, out)
		}
		checkApart(t, out, []any{c, l}[i/2])
	}
	keys := [][]impl.Addr{impl.KeysOf(c.Blocks[0]), impl.KeysOf(c.Blocks[1]), impl.KeysOf(c.Blocks[2]), impl.KeysOf(c.Blocks[0])}
	checkMemory(t, c, l, answers[0], answers[1], answers[2], answers[3], keys[0], keys[1], keys[2], keys[3])
	for _, out := range answers {
		for i, x := range out.Things {
			x.Pairs[0] = pair("changed", num(0))
			x.Addr.Path[0] = "changed"
			_, _ = append(x.Pairs, impl.Pair{}), append(x.Needs, impl.Addr{})
			if len(x.Needs) > 0 {
				x.Needs[0].Path[0] = "changed"
				x.Needs[0] = impl.Addr{}
			}
			out.Order[i].Path[1] = "changed"
			out.Things[i], out.Order[i] = impl.Thing{}, impl.Addr{}
		}
	}
	for _, l := range keys {
		l[0].Path[0] = "changed"
		l[0] = impl.Addr{}
	}
	if after := told([]any{configMemory(c), thingMemory(l)}); after != before {
		t.Errorf("got %s, want %s", after, before)
	}
	if again := told([]any{impl.Expand(c), impl.OrderOf(l)}); again != want {
		t.Errorf("got %s, want %s", again, want)
	}
	v := impl.PairOf(l[0], "q")
	checkApart(t, v, l)
	checkApart(t, keys[0], c)
}
