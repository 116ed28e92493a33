package tests

import (
	"fmt"
	"math"
	"regexp"
	"slices"
	"strings"
	"testing"

	"loop.example/g00770/impl"
)

// block is one of a single thing.
func block(a impl.Addr, props ...impl.Prop) impl.Block {
	return impl.Block{Addr: a, Count: -1, Props: props}
}

func counted(a impl.Addr, count int64, props ...impl.Prop) impl.Block {
	return impl.Block{Addr: a, Count: count, Props: props}
}

func each(a impl.Addr, words []string, props ...impl.Prop) impl.Block {
	return impl.Block{Addr: a, Count: -1, Each: words, Props: props}
}

func prop(name string, e impl.Expr) impl.Prop {
	return impl.Prop{Name: name, Expr: e}
}

func home(words ...string) impl.Addr {
	return impl.Addr{Path: words}
}

func blocks(l ...impl.Block) impl.Config {
	return impl.Config{Blocks: l}
}

func moves(l ...impl.Move) impl.Config {
	return impl.Config{Moves: l}
}

// abc are so many words, rising.
func abc(many int) []string {
	return strings.Split("a b c d e f g h i j k l m n", " ")[:many]
}

// one tells each of so many words 1.
func one(many int) []impl.Prop {
	var out []impl.Prop
	for _, w := range abc(many) {
		out = append(out, prop(w, tells(num(1))))
	}
	return out
}

func plainPath(a impl.Addr) impl.Addr {
	return plain(impl.AddrOut{Addr: a}).Addr
}

// plainConfig makes none of each empty list, as both are the same.
func plainConfig(c impl.Config) impl.Config {
	var out impl.Config
	for _, b := range c.Blocks {
		b.Addr, b.Each = plainPath(b.Addr), append([]string(nil), b.Each...)
		var props []impl.Prop
		for _, p := range b.Props {
			props = append(props, prop(p.Name, plainExpr(p.Expr)))
		}
		b.Props = props
		out.Blocks = append(out.Blocks, b)
	}
	for _, m := range c.Moves {
		m.From, m.To = plainPath(m.From), plainPath(m.To)
		out.Moves = append(out.Moves, m)
	}
	return out
}

func wantConfig(t *testing.T, what string, got impl.ConfigOut, want impl.ConfigOut) {
	t.Helper()
	got.Config, want.Config = plainConfig(got.Config), plainConfig(want.Config)
	if told(got) != told(want) {
		t.Errorf("%.200s: got %+v, want %+v", what, got, want)
	}
}

func readConfig(t *testing.T, text string) impl.Config {
	t.Helper()
	out := impl.ConfigRead(text)
	if out.Code != impl.OK {
		t.Fatalf("ConfigRead(%q): code %d", text, out.Code)
	}
	return out.Config
}

// checkConfig checks that this is a right config, just of this text, and that it comes back from it.
func checkConfig(t *testing.T, c impl.Config, text string) {
	t.Helper()
	if !impl.ConfigRight(c) {
		t.Errorf("not right: %q", text)
	}
	if got := impl.ConfigText(c); got != text {
		t.Errorf("ConfigText: got %q, want %q", got, text)
	}
	out := impl.ConfigRead(text)
	wantConfig(t, fmt.Sprintf("ConfigRead(%q)", text), out, impl.ConfigOut{Config: c})
	if !impl.SameConfig(c, out.Config) || !impl.SameConfig(out.Config, c) {
		t.Errorf("not the same as what is read: %q", text)
	}
}

func checkWrongConfig(t *testing.T, what string, c impl.Config) {
	t.Helper()
	if impl.ConfigRight(c) || impl.ConfigText(c) != "" {
		t.Errorf("%s: right, or with the text %q: %+v", what, impl.ConfigText(c), c)
	}
}

// checkField checks a config of a single block or move, of which the text says whether it is right.
func checkField(t *testing.T, right bool, c impl.Config, text string) {
	t.Helper()
	if right != (text != "") {
		t.Errorf("%+v: right %v, want %q", c, right, text)
	}
	if text == "" {
		checkWrongConfig(t, "alone", c)
		return
	}
	checkConfig(t, c, text)
}

const bareForm = `(?:[a-z]{1,8}/){0,2}[a-z]{1,8}\.[a-z]{1,8}`

// The lines of a config's text, told in another way than the program reads them.
var (
	blockShape = regexp.MustCompile(`^thing (` + bareForm + `)(?: (count) [0-8]| each ([a-z]{1,8}(?:,[a-z]{1,8}){0,7}))?$`)
	propShape  = regexp.MustCompile(`^  ([a-z]{1,8}) = (.*)$`)
	thingShape = regexp.MustCompile(`^moved ([^ ]*) ([^ ]*)$`)
	allShape   = regexp.MustCompile(`^movedall (` + bareForm + `) (` + bareForm + `)$`)
	homeShape  = regexp.MustCompile(`^movedhome ([a-z]{1,8}(?:/[a-z]{1,8})?) ([a-z]{1,8}(?:/[a-z]{1,8})?)$`)
)

// shapes counts what the lines of a config's text have told so far.
type shapes struct {
	blocks, props, moves int
	addr, name           string
	counted, keyed       bool
}

func wordsRise(l []string) bool {
	return slices.IsSorted(l) && len(slices.Compact(slices.Clone(l))) == len(l)
}

func (s *shapes) block(line string) bool {
	m := blockShape.FindStringSubmatch(line)
	if m == nil || s.moves > 0 {
		return false
	}
	rises := s.addr == "" || impl.AddrLess(impl.AddrRead(s.addr).Addr, impl.AddrRead(m[1]).Addr)
	s.addr, s.name, s.props, s.counted, s.keyed = m[1], "", 0, m[2] != "", m[3] != ""
	s.blocks++
	return rises && s.blocks <= 12 && wordsRise(strings.Split(m[3], ","))
}

func (s *shapes) prop(line string) bool {
	m := propShape.FindStringSubmatch(line)
	if m == nil || s.moves > 0 || s.blocks == 0 || m[1] <= s.name || !exprShape.MatchString(m[2]) {
		return false
	}
	s.name = m[1]
	s.props++
	return s.props <= 4 && (s.counted || !strings.Contains(m[2], "#")) && (s.keyed || !strings.Contains(m[2], "$"))
}

func (s *shapes) move(line string) bool {
	s.moves++
	if m := homeShape.FindStringSubmatch(line); m != nil {
		return s.moves <= 12 && m[1] != m[2]
	}
	m := allShape.FindStringSubmatch(line)
	if m == nil {
		m = thingShape.FindStringSubmatch(line)
	}
	if m == nil || !addrShape.MatchString(m[1]) || !addrShape.MatchString(m[2]) {
		return false
	}
	return s.moves <= 12 && m[1] != m[2] && impl.AddrRead(m[1]).Addr.Type == impl.AddrRead(m[2]).Addr.Type
}

// configShape tells whether this is the text of a config.
func configShape(text string) bool {
	var s shapes
	for len(text) > 0 {
		line, rest, whole := strings.Cut(text, "\n")
		text = rest
		read := s.move
		switch {
		case strings.HasPrefix(line, "thing"):
			read = s.block
		case strings.HasPrefix(line, " "):
			read = s.prop
		}
		if !whole || !read(line) {
			return false
		}
	}
	return true
}

func checkConfigShape(t *testing.T, s string) {
	t.Helper()
	out := impl.ConfigRead(s)
	if !configShape(s) {
		wantConfig(t, fmt.Sprintf("ConfigRead(%q)", s), out, impl.ConfigOut{Code: impl.ErrSyntax})
		return
	}
	if out.Code != impl.OK || !impl.ConfigRight(out.Config) || impl.ConfigText(out.Config) != s {
		t.Errorf("ConfigRead(%q): %+v", s, out)
	}
}

func TestConfigConstants(t *testing.T) {
	if got := []int64{impl.MaxBlocks, impl.MaxProps, impl.MaxMoves}; !slices.Equal(got, []int64{12, 4, 12}) {
		t.Errorf("the limits are %v", got)
	}
	if got := []int64{impl.MvThing, impl.MvAll, impl.MvHome}; !slices.Equal(got, []int64{1, 2, 3}) {
		t.Errorf("the kinds of a move are %v", got)
	}
}

// Promise 5: the text of a right config is just this, and it comes back from it.
func TestConfigsComeBack(t *testing.T) {
	disk, net := impl.Addr{Type: "disk", Name: "a"}, impl.Addr{Path: []string{"m"}, Type: "net", Name: "b"}
	two, x := disk, disk
	two.Kind, two.N = 1, 2
	x.Kind, x.Key = 2, "x"
	deep := sum(sum(sum(index, ref(two, "size")), tells(num(-1))), tells(letters("")))
	checkConfig(t, impl.Config{}, "")
	checkConfig(t, impl.Config{Blocks: []impl.Block{}, Moves: []impl.Move{}}, "")
	checkConfig(t, blocks(block(disk)), "thing disk.a\n")
	checkConfig(t, blocks(impl.Block{Addr: disk, Count: -1, Each: []string{}, Props: []impl.Prop{}}), "thing disk.a\n")
	checkConfig(t, blocks(counted(disk, 0)), "thing disk.a count 0\n")
	checkConfig(t, blocks(counted(disk, 0, prop("n", index))), "thing disk.a count 0\n  n = #\n")
	checkConfig(t, blocks(counted(disk, 8, prop("n", deep))), "thing disk.a count 8\n  n = (((# + @disk.a[2]:size) + -1) + \"\")\n")
	checkConfig(t, blocks(each(disk, []string{"x"}, prop("n", key))), "thing disk.a each x\n  n = $\n")
	checkConfig(t, blocks(each(disk, []string{"a", "ab", "b"}, prop("n", sum(key, tells(num(1)))))), "thing disk.a each a,ab,b\n  n = ($ + 1)\n")
	checkConfig(t, blocks(block(disk, prop("n", ref(x, "size")), prop("nn", tells(letters("a"))), prop("o", ref(net, "o")))),
		"thing disk.a\n  n = @disk.a[x]:size\n  nn = \"a\"\n  o = @m/net.b:o\n")
	checkConfig(t, blocks(block(disk, one(4)...), counted(net, 1)), "thing disk.a\n  a = 1\n  b = 1\n  c = 1\n  d = 1\nthing m/net.b count 1\n")
	checkConfig(t, moves(impl.Move{Kind: 1, From: disk, To: two}, impl.Move{Kind: 1, From: two, To: x}), "moved disk.a disk.a[2]\nmoved disk.a[2] disk.a[x]\n")
	checkConfig(t, moves(impl.Move{Kind: 2, From: disk, To: bareB()}, impl.Move{Kind: 3, From: home("m"), To: home("m", "n")}), "movedall disk.a m/n/disk.b\nmovedhome m m/n\n")
	same := impl.Move{Kind: 3, From: home("m", "n"), To: home("m")}
	checkConfig(t, impl.Config{Blocks: []impl.Block{block(net)}, Moves: []impl.Move{same, same}}, "thing m/net.b\nmovedhome m/n m\nmovedhome m/n m\n")
}

func bareB() impl.Addr {
	return impl.Addr{Path: []string{"m", "n"}, Type: "disk", Name: "b"}
}

// Promise 5, of each address that a block, a Ref or a move may have.
func TestConfigsOfAllAddrsComeBack(t *testing.T) {
	for _, x := range rightAddrs {
		bare := impl.Bare(x.addr)
		name, _, _ := strings.Cut(x.text, "[")
		checkConfig(t, blocks(block(bare, prop("p", ref(x.addr, "q")))), "thing "+name+"\n  p = @"+x.text+":q\n")
		for _, y := range rightAddrs {
			text := ""
			if x.addr.Type == y.addr.Type && x.text != y.text {
				text = "moved " + x.text + " " + y.text + "\n"
			}
			m := impl.Move{Kind: impl.MvThing, From: x.addr, To: y.addr}
			checkField(t, impl.MoveRight(m), moves(m), text)
		}
	}
}

// Each number that a Count may be, and those about them.
func TestCounts(t *testing.T) {
	for _, n := range []int64{math.MinInt64, -9, -2, 9, 10, 99, 400, 1 << 32, math.MaxInt64, math.MaxInt64 - 1} {
		b := counted(diskA, n)
		checkField(t, impl.BlockRight(b), blocks(b), "")
		text := fmt.Sprintf("thing disk.a count %d\n", n)
		wantConfig(t, text, impl.ConfigRead(text), impl.ConfigOut{Code: impl.ErrSyntax})
	}
	for n := range int64(9) {
		b := counted(diskA, n, prop("p", index))
		checkField(t, impl.BlockRight(b), blocks(b), fmt.Sprintf("thing disk.a count %d\n  p = #\n", n))
	}
}

// propsField is what a block may have as its Props, the text that they add, and what they ask for.
type propsField struct {
	of    []impl.Prop
	text  string
	wrong bool
	index bool
	key   bool
}

func propsFields() []propsField {
	v, five := tells(num(5)), tells(num(1000001))
	low := func(e impl.Expr) impl.Expr { return sum(tells(num(1)), sum(v, sum(v, e))) }
	high := func(e impl.Expr) impl.Expr { return sum(sum(sum(e, v), v), tells(num(1))) }
	return []propsField{
		{},
		{of: []impl.Prop{}},
		{of: []impl.Prop{prop("p", v)}, text: "  p = 5\n"},
		{of: []impl.Prop{prop(word8, ref(diskB, "x"))}, text: "  abcdefgh = @m/n/disk.b[10]:x\n"},
		{of: one(4), text: "  a = 1\n  b = 1\n  c = 1\n  d = 1\n"},
		{of: []impl.Prop{prop("a", v), prop("ab", v), prop("b", v)}, text: "  a = 5\n  ab = 5\n  b = 5\n"},
		{of: []impl.Prop{prop("p", index)}, text: "  p = #\n", index: true},
		{of: []impl.Prop{prop("p", key)}, text: "  p = $\n", key: true},
		{of: []impl.Prop{prop("p", v), prop("q", index)}, text: "  p = 5\n  q = #\n", index: true},
		{of: []impl.Prop{prop("p", key), prop("q", v)}, text: "  p = $\n  q = 5\n", key: true},
		{of: []impl.Prop{prop("p", low(index))}, text: "  p = (1 + (5 + (5 + #)))\n", index: true},
		{of: []impl.Prop{prop("p", low(key))}, text: "  p = (1 + (5 + (5 + $)))\n", key: true},
		{of: []impl.Prop{prop("p", high(index))}, text: "  p = (((# + 5) + 5) + 1)\n", index: true},
		{of: []impl.Prop{prop("p", high(key))}, text: "  p = ((($ + 5) + 5) + 1)\n", key: true},
		{of: []impl.Prop{prop("p", sum(index, key))}, text: "  p = (# + $)\n", index: true, key: true},
		{of: one(5), wrong: true},
		{of: slices.Repeat(one(1), impl.MaxList+1), wrong: true},
		{of: []impl.Prop{prop("b", v), prop("a", v)}, wrong: true},
		{of: []impl.Prop{prop("a", v), prop("c", v), prop("b", v)}, wrong: true},
		{of: []impl.Prop{prop("a", v), prop("a", v)}, wrong: true},
		{of: []impl.Prop{prop("ab", v), prop("a", v)}, wrong: true},
		{of: []impl.Prop{prop("", v)}, wrong: true},
		{of: []impl.Prop{prop(word9, v)}, wrong: true},
		{of: []impl.Prop{prop("a", v), prop("b_", v)}, wrong: true},
		{of: []impl.Prop{prop("p", five)}, wrong: true},
		{of: []impl.Prop{prop("p", v), prop("q", impl.Expr{})}, wrong: true},
		{of: []impl.Prop{prop("p", sum(index))}, wrong: true},
		{of: []impl.Prop{prop("p", sum(low(v), v))}, wrong: true},
		{of: []impl.Prop{{}}, wrong: true},
	}
}

// Whatever stands in each field of a block: right is just what tells of one thing, or of several in one way.
func TestBlocksOfAllFields(t *testing.T) {
	addrs := []impl.Addr{diskA, bareB(), diskB, {}, home("m"), {Type: "disk", Name: "a", N: 1}, {Type: "disk", Name: "a", Kind: 2, Key: "x"}, {Path: manyWords(3), Type: "disk", Name: "a"}}
	names := []string{"disk.a", "m/n/disk.b", "", "", "", "", "", ""}
	lists := [][]string{nil, {}, {"a"}, {word8}, {"a", "ab", "b"}, abc(8), abc(9), {"b", "a"}, {"a", "a"}, {"ab", "a"}, {"a", "b", "b"}, {""}, {"a", "a1"}, {word9}, manyWords(401)}
	for i, a := range addrs {
		for _, count := range []int64{-2, -1, 0, 1, 8, 9} {
			for j, l := range lists {
				for _, p := range propsFields() {
					text := "thing " + names[i]
					right := names[i] != "" && !p.wrong && (count >= 0 || !p.index) && (j > 1 || !p.key)
					switch {
					case j < 2 && count >= 0 && count <= 8:
						text += fmt.Sprintf(" count %d", count)
					case j >= 2 && j <= 5 && count == -1:
						text += " each " + strings.Join(l, ",")
					case j >= 2 || count != -1:
						right = false
					}
					text += "\n" + p.text
					if !right {
						text = ""
					}
					b := impl.Block{Addr: a, Count: count, Each: l, Props: p.of}
					checkField(t, impl.BlockRight(b), blocks(b), text)
				}
			}
		}
	}
}

func TestWrongBlocks(t *testing.T) {
	wrong := []impl.Block{{}, {Count: -1}, {Addr: diskA, Count: math.MinInt64}, {Addr: diskA, Count: 0, Each: []string{"a"}}, {Addr: diskA, Count: 1, Each: []string{"a"}}}
	for _, a := range wrongAddrs {
		wrong = append(wrong, block(a), counted(a, 1), block(diskA, prop("p", ref(a, "q"))))
	}
	for _, v := range wrongValues {
		wrong = append(wrong, block(diskA, prop("p", tells(v))))
	}
	for i, b := range wrong {
		checkField(t, impl.BlockRight(b), blocks(b), "")
		checkWrongConfig(t, fmt.Sprintf("%d behind a right one", i), blocks(block(impl.Addr{Type: "a", Name: "a"}), b))
	}
}

// moveField is what a move may have as an address: its texts as one with a key or without, as a bare one, and as a home.
type moveField struct {
	of    impl.Addr
	thing string
	bare  string
	home  string
}

func moveFields() []moveField {
	return []moveField{
		{of: diskA, thing: "disk.a", bare: "disk.a"},
		{of: impl.Addr{Path: []string{}, Type: "disk", Name: "z"}, thing: "disk.z", bare: "disk.z"},
		{of: bareB(), thing: "m/n/disk.b", bare: "m/n/disk.b"},
		{of: diskB, thing: "m/n/disk.b[10]"},
		{of: impl.Addr{Type: "disk", Name: "a", Kind: 2, Key: "x"}, thing: "disk.a[x]"},
		{of: impl.Addr{Type: "net", Name: "a"}, thing: "net.a", bare: "net.a"},
		{of: impl.Addr{Type: "net", Name: "a", Kind: 1}, thing: "net.a[0]"},
		{of: home("m"), home: "m"},
		{of: home("m", "n"), home: "m/n"},
		{of: home(word8), home: word8},
		{},
		{of: home([]string{}...)},
		{of: home("m", "n", "o")},
		{of: home("")},
		{of: home("m", "")},
		{of: home("m/n")},
		{of: home(word9)},
		{of: home("M")},
		{of: home(manyWords(401)...)},
		{of: impl.Addr{Path: []string{"m"}, Type: "disk"}},
		{of: impl.Addr{Path: []string{"m"}, Name: "a"}},
		{of: impl.Addr{Path: []string{"m"}, Kind: 1}},
		{of: impl.Addr{Path: []string{"m"}, N: 1}},
		{of: impl.Addr{Path: []string{"m"}, Key: "x"}},
		{of: impl.Addr{Path: []string{"m"}, Kind: 2, Key: "x"}},
		{of: impl.Addr{Type: "disk", Name: "a", N: 1}},
		{of: impl.Addr{Type: "disk", Name: "a", Kind: 1, N: 100}},
	}
}

// Whatever stands in each field of a move: right is just what tells of two different places of one kind.
func TestMovesOfAllFields(t *testing.T) {
	for _, kind := range []int64{math.MinInt64, -1, 0, 1, 2, 3, 4, 1<<32 + 1, math.MaxInt64} {
		for i, x := range moveFields() {
			for j, y := range moveFields() {
				word, from, to := "", "", ""
				switch kind {
				case 1:
					word, from, to = "moved", x.thing, y.thing
				case 2:
					word, from, to = "movedall", x.bare, y.bare
				case 3:
					word, from, to = "movedhome", x.home, y.home
				}
				text := word + " " + from + " " + to + "\n"
				if from == "" || to == "" || i == j || x.of.Type != y.of.Type {
					text = ""
				}
				m := impl.Move{Kind: kind, From: x.of, To: y.of}
				checkField(t, impl.MoveRight(m), moves(m), text)
			}
		}
	}
}

func TestWrongMoves(t *testing.T) {
	wrong := []impl.Move{{}, {Kind: 1}, {Kind: 2}, {Kind: 3}, {Kind: 4}, {Kind: 1, From: diskA, To: diskA}, {Kind: 2, From: diskA, To: diskA}, {Kind: 3, From: home("m"), To: home("m")}}
	for _, a := range wrongAddrs {
		for kind := int64(0); kind <= 4; kind++ {
			wrong = append(wrong, impl.Move{Kind: kind, From: a, To: bareB()}, impl.Move{Kind: kind, From: bareB(), To: a}, impl.Move{Kind: kind, From: a, To: a})
		}
	}
	right := impl.Move{Kind: 1, From: diskA, To: diskB}
	for i, m := range wrong {
		checkField(t, impl.MoveRight(m), moves(m), "")
		checkWrongConfig(t, fmt.Sprintf("%d among right ones", i), moves(right, m, right))
	}
}

// manyBlocks are so many right blocks, rising, and their text.
func manyBlocks(many int) ([]impl.Block, string) {
	var l []impl.Block
	text := ""
	for _, w := range abc(many) {
		l = append(l, block(impl.Addr{Type: "disk", Name: w}))
		text += "thing disk." + w + "\n"
	}
	return l, text
}

// manyMoves are so many right moves, alike and falling, as no order is asked of them.
func manyMoves(many int) ([]impl.Move, string) {
	l := slices.Repeat([]impl.Move{{Kind: 2, From: bareB(), To: diskA}}, many)
	text := strings.Repeat("movedall m/n/disk.b disk.a\n", many)
	if many > 1 {
		l[many-1] = impl.Move{Kind: 1, From: diskA, To: bareB()}
		text = text[:27*(many-1)] + "moved disk.a m/n/disk.b\n"
	}
	return l, text
}

func TestConfigLimits(t *testing.T) {
	for many := range 15 {
		l, lines := manyBlocks(many)
		m, moved := manyMoves(many)
		if many <= 12 {
			checkConfig(t, blocks(l...), lines)
			checkConfig(t, moves(m...), moved)
			checkConfig(t, impl.Config{Blocks: l, Moves: m}, lines+moved)
			continue
		}
		for _, c := range []impl.Config{blocks(l...), moves(m...), {Blocks: l[:12], Moves: m}, {Blocks: l, Moves: m[:12]}} {
			checkWrongConfig(t, fmt.Sprint(many), c)
		}
		for _, s := range []string{lines, moved, lines + moved, "thing disk.a\n" + moved, lines + "movedhome m n\n"} {
			wantConfig(t, s, impl.ConfigRead(s), impl.ConfigOut{Code: impl.ErrSyntax})
		}
	}
	for _, many := range []int{impl.MaxList, impl.MaxList + 1} {
		checkWrongConfig(t, "too many blocks", blocks(slices.Repeat([]impl.Block{block(diskA)}, many)...))
		checkWrongConfig(t, "too many moves", moves(slices.Repeat([]impl.Move{{Kind: 1, From: diskA, To: diskB}}, many)...))
	}
}

// Blocks rise by their addresses, not by their texts, and no two are alike.
func TestOrderOfBlocks(t *testing.T) {
	var bare []impl.Addr
	for _, x := range rightAddrs {
		if x.addr.Kind == 0 {
			bare = append(bare, x.addr)
		}
	}
	for i, x := range bare {
		for j, y := range bare {
			text := ""
			if i < j {
				text = "thing " + impl.AddrText(x) + "\nthing " + impl.AddrText(y) + " count 2\n"
			}
			c := blocks(block(x), counted(y, 2))
			checkField(t, impl.ConfigRight(c), c, text)
		}
	}
	l, _ := manyBlocks(12)
	for i := range l {
		wrong := slices.Clone(l)
		wrong[i] = block(impl.Addr{})
		checkWrongConfig(t, "one that is not right", blocks(wrong...))
		wrong[i] = l[(i+1)%12]
		checkWrongConfig(t, "two that are alike", blocks(wrong...))
		wrong[(i+1)%12] = l[i]
		checkWrongConfig(t, "two that do not rise", blocks(wrong...))
	}
}

// rightConfigTexts are texts of configs in which all stands that may stand in one.
var rightConfigTexts = []string{
	"",
	"thing a.b\n",
	"thing d.a count 8\n  x = #\n",
	"thing d.a each a,ab,b\n  x = ($ + 1)\n",
	"thing d.b\n  x = @m/n/d.a[10]:y\n  y = \"0a\"\n",
	"moved d.a m/d.b[0]\n",
	"movedall d.a m/n/d.b\n",
	"movedhome m n/o\n",
	"thing z.z count 0\nthing m/d.a\n  p = -1\n  q = 2\nmovedhome o m\nmoved d.a[x] d.b[9]\nmovedall d.e d.f\nmoved d.b d.a\n",
}

func TestRightConfigTexts(t *testing.T) {
	for _, s := range rightConfigTexts {
		if !configShape(s) {
			t.Errorf("of no right shape: %q", s)
		}
		checkConfigShape(t, s)
	}
}

func TestConfigTextsThatAreNone(t *testing.T) {
	texts := []string{"\n", " ", "  ", "a", "thing", "thing ", "thing\n", "thing \n", "thing  \n", "thing disk.a", "thing disk.a count 2", "thing disk.a\n\n", "\nthing disk.a\n", "thing disk.a\r\n",
		"thing disk.a \n", " thing disk.a\n", "thing  disk.a\n", "thing\tdisk.a\n", "thingdisk.a\n", "Thing disk.a\n", "thing disk\n", "thing disk.a[0]\n", "thing disk.a[x]\n",
		"thing disk.a disk.b\n", "thing disk.a\nthing disk.a\n", "thing disk.b\nthing disk.a\n", "thing m/disk.a\nthing disk.b\n", "thing m/n/o/disk.a\n", "thing d\xe9sk.a\n", "thing disk.\xc3\xa9\n",
		"thing disk.a\xff\n", "\xffthing disk.a\n", "thing disk.a\n\xff", "thing disk.a\x00\n", "thing disk.a\n\x00",
		"thing disk.a count\n", "thing disk.a count \n", "thing disk.a count 9\n", "thing disk.a count 10\n", "thing disk.a count -1\n", "thing disk.a count -0\n", "thing disk.a count +2\n",
		"thing disk.a count 00\n", "thing disk.a count 02\n", "thing disk.a count 2 \n", "thing disk.a count  2\n", "thing disk.a  count 2\n", "thing disk.a count 2 3\n", "thing disk.a count a\n",
		"thing disk.a count 2 each a\n", "thing disk.a each a count 2\n", "thing disk.a count 2 count 2\n", "thing count 2\n", "thing disk.a Count 2\n", "thing disk.a counts 2\n",
		"thing disk.a count 18446744073709551618\n", "thing disk.a count 2.0\n", "thing disk.a count 0x2\n", "thing disk.a count \xb2\n", "thing disk.a count \u0662\n",
		"thing disk.a each\n", "thing disk.a each \n", "thing disk.a each ,\n", "thing disk.a each a,\n", "thing disk.a each ,a\n", "thing disk.a each a,,b\n", "thing disk.a each a, b\n",
		"thing disk.a each a ,b\n", "thing disk.a each a b\n", "thing disk.a each b,a\n", "thing disk.a each a,a\n", "thing disk.a each ab,a\n", "thing disk.a each a1\n", "thing disk.a each A\n",
		"thing disk.a each a,b,c,d,e,f,g,h,i\n", "thing disk.a each " + word9 + "\n", "thing disk.a each a each b\n", "thing disk.a each a \n", "thing disk.a  each a\n", "thing disk.a each \xe9\n",
		"  x = 1\n", "  x = 1\nthing disk.a\n", "moved disk.a disk.b\n  x = 1\n", "thing disk.a\nmoved disk.a disk.b\n  x = 1\n", "moved disk.a disk.b\nthing disk.a\n",
		"thing disk.a\nmoved disk.a disk.b\nthing disk.b\n", "thing disk.a\n\n  x = 1\n", "thing disk.a\n x = 1\n", "thing disk.a\n   x = 1\n", "thing disk.a\nx = 1\n", "thing disk.a\n\tx = 1\n",
		"thing disk.a\n  x  = 1\n", "thing disk.a\n  x =  1\n", "thing disk.a\n  x = 1 \n", "thing disk.a\n  x =1\n", "thing disk.a\n  x= 1\n", "thing disk.a\n  x=1\n", "thing disk.a\n  x = \n",
		"thing disk.a\n  x =\n", "thing disk.a\n  x\n", "thing disk.a\n  \n", "thing disk.a\n   = 1\n", "thing disk.a\n  = 1\n", "thing disk.a\n  x = 1", "thing disk.a\n  x = 01\n", "thing disk.a\n  x = -0\n",
		"thing disk.a\n  x = +1\n", "thing disk.a\n  x = 1000001\n", "thing disk.a\n  x = y = 1\n", "thing disk.a\n  x = 1 = 1\n", "thing disk.a\n  X = 1\n", "thing disk.a\n  x1 = 1\n",
		"thing disk.a\n  " + word9 + " = 1\n", "thing disk.a\n  y = 1\n  x = 1\n", "thing disk.a\n  x = 1\n  x = 1\n", "thing disk.a\n  x = 1\n  x = 2\n", "thing disk.a\n  a = 1\n  b = 1\n  c = 1\n  d = 1\n  e = 1\n",
		"thing disk.a\n  x = #\n", "thing disk.a\n  x = $\n", "thing disk.a\n  x = (1 + (1 + (1 + #)))\n", "thing disk.a count 2\n  x = $\n", "thing disk.a count 2\n  x = (# + $)\n", "thing disk.a each a\n  x = #\n",
		"thing disk.a each a\n  x = (((# + 1) + 1) + 1)\n", "thing disk.a each a\n  x = (# + $)\n", "thing disk.a count 2\nthing disk.b\n  x = #\n", "thing disk.a each a\nthing disk.b\n  x = $\n",
		"thing disk.a\n  x = (1 + (1 + (1 + (1 + 1))))\n", "thing disk.a\n  x = \"A\"\n", "thing disk.a\n  x = \"\xe9\"\n", "thing disk.a\n  x = \"\n\"\n", "thing disk.a\n  x = @disk.a\n", "thing disk.a\n  \xe9 = 1\n",
		"moved\n", "moved \n", "moved disk.a\n", "moved disk.a \n", "moved  disk.a disk.b\n", "moved disk.a  disk.b\n", "moved disk.a disk.b \n", "moved disk.a disk.b", "moved disk.a disk.b disk.c\n", " moved disk.a disk.b\n",
		"moved disk.a disk.a\n", "moved disk.a[0] disk.a[0]\n", "moved disk.a net.b\n", "moved disk.a[00] disk.b\n", "moved disk.a[100] disk.b\n", "moved disk.a disk.b[]\n", "moved m n\n", "moved m/disk disk.a\n",
		"Moved disk.a disk.b\n", "move disk.a disk.b\n", "moveddisk.a disk.b\n", "moved disk.\xe9 disk.b\n", "moved disk.a,disk.b\n", "moved disk.a disk.b\n\n", "moved disk.a disk.b\r\n",
		"movedall\n", "movedall disk.a\n", "movedall disk.a disk.a\n", "movedall disk.a net.b\n", "movedall disk.a[0] disk.b\n", "movedall disk.a disk.b[x]\n", "movedall disk.a[0] disk.b[0]\n", "movedall m n\n", "movedalls disk.a disk.b\n",
		"movedhome\n", "movedhome m\n", "movedhome m \n", "movedhome  m\n", "movedhome m m\n", "movedhome m/n m/n\n", "movedhome m  n\n", "movedhome m n \n", "movedhome m n o\n", "movedhome m/ n\n", "movedhome /m n\n", "movedhome m n/\n",
		"movedhome / m\n", "movedhome m/n/o m\n", "movedhome m m/n/o\n", "movedhome M n\n", "movedhome m n1\n", "movedhome disk.a disk.b\n", "movedhome m " + word9 + "\n", "movedhome \xe9 m\n", "movedhome m n", "movedhome  n\n"}
	for _, s := range texts {
		if configShape(s) {
			t.Errorf("of a right shape: %q", s)
		}
		for _, ahead := range []string{"", "thing a.a\n", "thing a.a count 2\n  a = #\n"} {
			if ahead != "" && configShape(ahead+s) {
				continue
			}
			wantConfig(t, fmt.Sprintf("ConfigRead(%q)", ahead+s), impl.ConfigRead(ahead+s), impl.ConfigOut{Code: impl.ErrSyntax})
		}
	}
}

// Each text that ends too early, or with a byte turned, put in or taken out, is read just where it has the right shape,
// and comes back.
func TestTurnedConfigTexts(t *testing.T) {
	bytes := "\x00\n\r\x7f\x80\xff !\"#$(+,-./0189:=@AZ[]_admz"
	for _, s := range rightConfigTexts {
		checkTurned(t, s, bytes, checkConfigShape)
	}
}

// Each text with a line taken out, told twice, put elsewhere, or cut into two.
func TestTurnedConfigLines(t *testing.T) {
	for _, s := range rightConfigTexts {
		lines := strings.SplitAfter(s, "\n")
		for i, line := range lines {
			without := slices.Delete(slices.Clone(lines), i, i+1)
			checkConfigShape(t, strings.Join(without, ""))
			for j := range len(without) + 1 {
				checkConfigShape(t, strings.Join(slices.Insert(slices.Clone(without), j, line), ""))
				checkConfigShape(t, strings.Join(slices.Insert(slices.Clone(lines), j, line), ""))
			}
			for j := range len(line) {
				cut := []string{line[:j], "\n", line[j:]}
				checkConfigShape(t, strings.Join(slices.Insert(slices.Clone(without), i, cut...), ""))
			}
		}
	}
}

// All texts of a few lines, and of a few parts of lines.
func TestShortConfigTexts(t *testing.T) {
	checkShort(t, []string{"thing d.a\n", "thing d.b count 2\n", "thing m/d.a each a,b\n", "  x = #\n", "  y = $\n", "  z = 1\n", "moved d.a d.b\n", "movedhome m n\n"}, 5, checkConfigShape)
	checkShort(t, []string{"thing ", "d.a", " each ", "a", ",", "\n", " ", "moved"}, 5, checkConfigShape)
}

// sized is the text of a config of so many bytes, at least 300: the words of its moves take what the blocks leave.
func sized(size int) string {
	expr := ref(impl.Addr{Path: []string{word8, word8}, Type: word8, Name: word8, Kind: 2, Key: word8}, word8)
	for range 3 {
		expr = sum(expr, expr)
	}
	text := ""
	for i := 0; size-len(text) > 760; i++ {
		if i%4 == 0 {
			text += "thing " + abc(12)[i/4] + ".a\n"
		}
		text += "  " + abc(4)[i%4] + " = " + impl.ExprText(expr) + "\n"
	}
	left := size - len(text) - 12*len("moved a/a/t.a b/b/t.b\n")
	word := func(letter string) string {
		more := min(left, 7)
		left -= more
		return strings.Repeat(letter, 1+more)
	}
	for range 12 {
		text += "moved " + word("a") + "/" + word("a") + "/t." + word("a") + " " + word("b") + "/" + word("b") + "/t." + word("b") + "\n"
	}
	return text
}

// The limit of what is handed in is looked for ahead of all else; up to it all that is right comes back.
func TestConfigReadSize(t *testing.T) {
	for size := impl.MaxBytes - 40; size <= impl.MaxBytes+40; size++ {
		text := sized(size)
		if len(text) != size || !configShape(text) {
			t.Fatalf("no right text of %d bytes: %q", size, text)
		}
		if size <= impl.MaxBytes {
			checkConfigShape(t, text)
			continue
		}
		wantConfig(t, "a right text too long", impl.ConfigRead(text), impl.ConfigOut{Code: impl.ErrSize})
	}
	for _, part := range []string{"\n", " ", "a", "thing ", "thing disk.a\n", "  x = 1\n", "thing disk.a\n  x = ((((", "moved disk.a disk.b\n", "thing disk.a each a,", "movedhome m/", "thing disk.a count 0", "\xff"} {
		full := strings.Repeat(part, impl.MaxBytes)[:impl.MaxBytes]
		wantConfig(t, "the longest text of "+part, impl.ConfigRead(full), impl.ConfigOut{Code: impl.ErrSyntax})
		wantConfig(t, "a text too long of "+part, impl.ConfigRead(full+"\n"), impl.ConfigOut{Code: impl.ErrSize})
	}
}

// A config may be right, and have a text that is too long to be handed in.
func TestLongestConfig(t *testing.T) {
	far := impl.Addr{Path: []string{word8, word8}, Type: word8, Name: word8, Kind: 2, Key: word8}
	expr := ref(far, word8)
	for range 3 {
		expr = sum(expr, expr)
	}
	words := strings.Split("aaaaaaaa bbbbbbbb cccccccc dddddddd eeeeeeee ffffffff gggggggg hhhhhhhh iiiiiiii jjjjjjjj kkkkkkkk llllllll", " ")
	var c impl.Config
	text, moved := "", ""
	for _, w := range words {
		b := each(impl.Addr{Path: []string{word8, word8}, Type: word8, Name: w}, words[:8])
		text += "thing " + impl.AddrText(b.Addr) + " each " + strings.Join(words[:8], ",") + "\n"
		for _, name := range words[:4] {
			b.Props = append(b.Props, prop(name, expr))
			text += "  " + name + " = " + impl.ExprText(expr) + "\n"
		}
		c.Blocks = append(c.Blocks, b)
		c.Moves = append(c.Moves, impl.Move{Kind: 1, From: far, To: b.Addr})
		moved += "moved " + impl.AddrText(far) + " " + impl.AddrText(b.Addr) + "\n"
	}
	if !impl.ConfigRight(c) || impl.ConfigText(c) != text+moved {
		t.Error("not right, or of another text")
	}
	wantConfig(t, "the longest config", impl.ConfigRead(text+moved), impl.ConfigOut{Code: impl.ErrSize})
	if !impl.SameConfig(c, c) {
		t.Error("not the same as itself")
	}
}

// fullConfig is a config in each field of which something stands, in new memory.
func fullConfig() impl.Config {
	a := func(name string) impl.Addr {
		return impl.Addr{Path: roomy("m", "n"), Type: "disk", Name: name}
	}
	size := append(make([]impl.Prop, 0, 6), prop("p", sum(ref(a("x"), "size"), index)), prop("q", tells(num(1))), prop("left", index))[:2]
	l := append(make([]impl.Block, 0, 6), counted(a("a"), 2, size...), each(a("b"), roomy("a", "b"), prop("p", key)), impl.Block{})[:2]
	b := impl.Addr{Path: roomy("m"), Type: "disk", Name: "a", Kind: 1, N: 3}
	c := impl.Addr{Path: roomy("m"), Type: "disk", Name: "a", Kind: 2, Key: "x"}
	m := append(make([]impl.Move, 0, 6), impl.Move{Kind: 1, From: b, To: c}, impl.Move{Kind: 3, From: home(roomy("m")...), To: home(roomy("n")...)}, impl.Move{})[:2]
	return impl.Config{Blocks: l, Moves: m}
}

// turns each turn one field of what fullConfig tells.
var turns = []func(*impl.Config){
	func(c *impl.Config) { c.Blocks = c.Blocks[:1] },
	func(c *impl.Config) { c.Blocks = c.Blocks[1:] },
	func(c *impl.Config) { c.Blocks = nil },
	func(c *impl.Config) { c.Blocks = append(c.Blocks, block(diskA)) },
	func(c *impl.Config) { slices.Reverse(c.Blocks) },
	func(c *impl.Config) { c.Blocks[0] = impl.Block{} },
	func(c *impl.Config) { c.Blocks[0].Addr.Name = "aa" },
	func(c *impl.Config) { c.Blocks[0].Addr.Path[1] = "o" },
	func(c *impl.Config) { c.Blocks[0].Addr.Path = nil },
	func(c *impl.Config) { c.Blocks[1].Addr.Kind = 1 },
	func(c *impl.Config) { c.Blocks[0].Count = 3 },
	func(c *impl.Config) { c.Blocks[0].Count = -1 },
	func(c *impl.Config) { c.Blocks[1].Count = 2 },
	func(c *impl.Config) { c.Blocks[0].Each = []string{"a"} },
	func(c *impl.Config) { c.Blocks[1].Each = nil },
	func(c *impl.Config) { c.Blocks[1].Each = c.Blocks[1].Each[:1] },
	func(c *impl.Config) { c.Blocks[1].Each[1] = "c" },
	func(c *impl.Config) { c.Blocks[1].Each = []string{"b", "a"} },
	func(c *impl.Config) { c.Blocks[1].Each = []string{"a", "b", ""} },
	func(c *impl.Config) { c.Blocks[0].Props = nil },
	func(c *impl.Config) { c.Blocks[0].Props = c.Blocks[0].Props[:1] },
	func(c *impl.Config) { c.Blocks[0].Props = c.Blocks[0].Props[:3] },
	func(c *impl.Config) { slices.Reverse(c.Blocks[0].Props) },
	func(c *impl.Config) { c.Blocks[0].Props[0].Name = "o" },
	func(c *impl.Config) { c.Blocks[0].Props[0].Expr.Kind = 0 },
	func(c *impl.Config) { c.Blocks[0].Props[0].Expr.Value.Kind = 1 },
	func(c *impl.Config) { c.Blocks[0].Props[0].Expr.Addr.Name = "a" },
	func(c *impl.Config) { c.Blocks[0].Props[0].Expr.Prop = "a" },
	func(c *impl.Config) { c.Blocks[0].Props[0].Expr.Args = nil },
	func(c *impl.Config) { c.Blocks[0].Props[0].Expr.Args = []impl.Expr{index} },
	func(c *impl.Config) { c.Blocks[0].Props[0].Expr.Args = []impl.Expr{index, index} },
	func(c *impl.Config) { c.Blocks[0].Props[0].Expr.Args[0].Prop = "a" },
	func(c *impl.Config) { c.Blocks[0].Props[0].Expr.Args[0].Addr.Path[0] = "o" },
	func(c *impl.Config) { c.Blocks[0].Props[0].Expr.Args[0].Addr.Kind = 1 },
	func(c *impl.Config) { c.Blocks[0].Props[0].Expr.Args[0].Args = []impl.Expr{{}} },
	func(c *impl.Config) { c.Blocks[0].Props[0].Expr.Args[1] = key },
	func(c *impl.Config) { c.Blocks[0].Props[0].Expr.Args[1] = sum(index, index) },
	func(c *impl.Config) { c.Blocks[0].Props[0].Expr.Args[1].Value.Text = "a" },
	func(c *impl.Config) { slices.Reverse(c.Blocks[0].Props[0].Expr.Args) },
	func(c *impl.Config) { c.Blocks[0].Props[1].Expr.Value.N = 2 },
	func(c *impl.Config) { c.Blocks[1].Props[0].Expr = index },
	func(c *impl.Config) { c.Moves = c.Moves[:1] },
	func(c *impl.Config) { c.Moves = c.Moves[1:] },
	func(c *impl.Config) { c.Moves = nil },
	func(c *impl.Config) { c.Moves = append(c.Moves, c.Moves[0]) },
	func(c *impl.Config) { slices.Reverse(c.Moves) },
	func(c *impl.Config) { c.Moves[0].Kind = 2 },
	func(c *impl.Config) { c.Moves[0].From.N = 4 },
	func(c *impl.Config) { c.Moves[0].To.Key = "y" },
	func(c *impl.Config) { c.Moves[0].To.Path[0] = "o" },
	func(c *impl.Config) { c.Moves[1].From.Path[0] = "o" },
	func(c *impl.Config) { c.Moves[1].To.Path = nil },
	func(c *impl.Config) { c.Moves[1].To.Type = "disk" },
	func(c *impl.Config) { c.Moves[1] = impl.Move{} },
}

// Alike are configs of which no field differs, whether they are right or not.
func TestSameConfigByFields(t *testing.T) {
	if !impl.ConfigRight(fullConfig()) || !impl.SameConfig(fullConfig(), fullConfig()) {
		t.Error("not right, or not the same, though no field differs")
	}
	for i, turn := range turns {
		x, y := fullConfig(), fullConfig()
		turn(&x)
		if impl.SameConfig(x, y) || impl.SameConfig(y, x) {
			t.Errorf("%d: the same, though a field differs", i)
		}
		turn(&y)
		if !impl.SameConfig(x, y) || !impl.SameConfig(x, x) {
			t.Errorf("%d: not the same, though no field differs", i)
		}
	}
	empty := impl.Config{Blocks: []impl.Block{}, Moves: []impl.Move{}}
	if !impl.SameConfig(empty, impl.Config{}) || impl.SameConfig(fullConfig(), empty) {
		t.Error("empty lists and none are not the same, or a full one is the same as them")
	}
	bare := impl.Block{Addr: impl.Addr{Path: []string{}}, Each: []string{}, Props: []impl.Prop{{Expr: impl.Expr{Args: []impl.Expr{}}}}}
	if !impl.SameConfig(blocks(bare), blocks(impl.Block{Props: []impl.Prop{{}}})) {
		t.Error("empty lists in a block and none are not the same")
	}
}

// A config of too many blocks or moves is refused as a list of so many is; the lists within them are not.
func TestSameConfigSize(t *testing.T) {
	for _, many := range []int{impl.MaxList, impl.MaxList + 1} {
		c := blocks(slices.Repeat([]impl.Block{block(diskA)}, many)...)
		m := moves(slices.Repeat([]impl.Move{{Kind: 1}}, many)...)
		for _, x := range []impl.Config{c, m, {Blocks: c.Blocks, Moves: m.Moves[:1]}, {Blocks: c.Blocks[:1], Moves: m.Moves}} {
			if impl.SameConfig(x, x) != (many == impl.MaxList) {
				t.Errorf("of %d: %v", many, many > impl.MaxList)
			}
			if impl.SameConfig(x, impl.Config{}) || impl.SameConfig(impl.Config{}, x) {
				t.Errorf("of %d: the same as the empty one", many)
			}
		}
	}
	big := impl.Block{Each: manyWords(401), Props: slices.Repeat([]impl.Prop{{Expr: impl.Expr{Args: make([]impl.Expr, 401)}}}, 401)}
	other := big
	other.Each = manyWords(402)
	if !impl.SameConfig(blocks(big), blocks(big)) || impl.SameConfig(blocks(big), blocks(other)) {
		t.Error("the limits are those of fields")
	}
}

// single is a config of a single expression.
func single(e impl.Expr) impl.Config {
	return blocks(counted(diskA, 2, prop("p", e)))
}

// Expressions that are too deep to be right are alike just if nothing differs, however deep it stands.
func TestSameConfigOfDeepExprs(t *testing.T) {
	for _, deep := range []func(int) (impl.Expr, string){leftDeep, rightDeep, wholeDeep} {
		for depth := 1; depth <= 9; depth++ {
			x, _ := deep(depth)
			y, _ := deep(depth)
			z, _ := deep(depth + 1)
			if !impl.SameConfig(single(x), single(y)) || impl.SameConfig(single(x), single(z)) || impl.SameConfig(single(z), single(x)) {
				t.Errorf("wrong, %d deep", depth)
			}
		}
	}
	chain := func(many int) impl.Expr {
		e := key
		for range many {
			e = sum(e, index)
		}
		return e
	}
	x, y, z := chain(100000), chain(100000), chain(100001)
	if !impl.SameConfig(single(x), single(y)) || impl.SameConfig(single(x), single(z)) {
		t.Error("wrong, 100000 deep")
	}
}

// folded has both Args of each sum in one list, so that it has more leaves than could be gone along.
func folded(leaf impl.Expr) impl.Expr {
	e := leaf
	for range 70 {
		e = sum(e, e)
	}
	return e
}

// ring is a sum without an end: after so many sums the first one stands in them again.
func ring(many int, first impl.Expr) impl.Expr {
	lists := make([][]impl.Expr, many)
	for i := range lists {
		lists[i] = []impl.Expr{index, {}}
	}
	lists[0][0] = first
	for i := range lists {
		lists[i][1] = impl.Expr{Kind: impl.ExSum, Args: lists[(i+1)%many]}
	}
	return lists[many-1][1]
}

// A list of Args may stand within itself, or again and again: that is not right, and each call answers nevertheless.
func TestConfigsWithoutEnd(t *testing.T) {
	for i, e := range []impl.Expr{folded(index), ring(1, index), ring(2, index), ring(3, key), ring(1, folded(key))} {
		c := single(e)
		if impl.BlockRight(c.Blocks[0]) || impl.ConfigRight(c) || impl.ConfigText(c) != "" {
			t.Errorf("%d: right", i)
		}
		if !impl.SameConfig(single(e), single(e)) || impl.SameConfig(single(e), single(index)) {
			t.Errorf("%d: not the same as itself, or the same as another one", i)
		}
	}
	same := func(x impl.Expr, y impl.Expr) bool { return impl.SameConfig(single(x), single(y)) }
	if !same(folded(index), folded(index)) || same(folded(index), folded(key)) {
		t.Error("folded ones")
	}
	if !same(ring(1, index), ring(1, index)) || !same(ring(2, index), ring(3, index)) || same(ring(1, index), ring(1, key)) {
		t.Error("rings of one kind of leaf")
	}
	if !same(ring(2, key), ring(2, key)) || same(ring(2, key), ring(3, key)) || same(ring(3, key), ring(2, key)) || same(ring(1, index), folded(index)) {
		t.Error("rings of two kinds of leaves")
	}
}

// No call changes what is handed in, nor what stands behind it in its memory.
func TestConfigArgumentsStay(t *testing.T) {
	for _, turn := range append(turns, func(*impl.Config) {}) {
		c, other := fullConfig(), fullConfig()
		turn(&c)
		lists := []any{c, c.Blocks[:cap(c.Blocks)], c.Moves[:cap(c.Moves)]}
		for _, b := range c.Blocks {
			lists = append(lists, b.Addr.Path[:cap(b.Addr.Path)], b.Each[:cap(b.Each)], b.Props[:cap(b.Props)])
		}
		before := told([]any{lists, other})
		for _, b := range c.Blocks {
			impl.BlockRight(b)
		}
		for _, m := range c.Moves {
			impl.MoveRight(m)
		}
		impl.ConfigRight(c)
		impl.ConfigText(c)
		impl.SameConfig(c, other)
		impl.SameConfig(other, c)
		if after := told([]any{lists, other}); after != before {
			t.Errorf("got %s, want %s", after, before)
		}
	}
}

// No two lists of an answer share memory, nor do those of two answers, and no text of it keeps what was handed in.
func TestReadConfigsAreNewMemory(t *testing.T) {
	long := "thing m/n/d.a each a,b\n  p = (@m/n/d.a[a]:p + @m/n/d.a[a]:p)\n  q = (@m/n/d.a[a]:p + @m/n/d.a[a]:p)\nthing m/n/d.b each a,b\n  p = (@m/n/d.a[a]:p + $)\n" +
		"moved m/n/d.a m/n/d.b\nmoved m/n/d.a m/n/d.b\nmovedhome m/n m\nmovedhome m/n m\n"
	for _, s := range append([]string{long, sized(impl.MaxBytes)}, rightConfigTexts...) {
		out, other := impl.ConfigRead(s), impl.ConfigRead(s)
		checkMemory(t, out, other)
		checkTexts(t, out, s)
	}
	c := readConfig(t, long)
	for _, b := range c.Blocks {
		_, _ = append(b.Each, "changed"), append(b.Props, impl.Prop{})
		b.Each[0], b.Each[1], b.Addr.Path[0] = "c", "d", "changed"
	}
	c.Moves[3].From.Path[0] = "changed"
	want := strings.NewReplacer("thing m/", "thing changed/", "each a,b", "each c,d", "m\nmovedhome m/", "m\nmovedhome changed/").Replace(long)
	if got := impl.ConfigText(c); got != want {
		t.Errorf("got %q, want %q", got, want)
	}
}
