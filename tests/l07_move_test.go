package tests

import (
	"fmt"
	"math/rand"
	"slices"
	"strings"
	"testing"

	"loop.example/g00770/impl"
)

func readMove(t *testing.T, line string) impl.Move {
	t.Helper()
	return readConfig(t, line+"\n").Moves[0]
}

func readAddrs(t *testing.T, line string) []impl.Addr {
	t.Helper()
	var l []impl.Addr
	for _, word := range strings.Fields(line) {
		l = append(l, readAddr(t, word))
	}
	return l
}

// plainAddrs makes none of each empty list, as both are the same.
func plainAddrs(l []impl.Addr) []impl.Addr {
	return plainExpand(impl.ExpandOut{Order: l}).Order
}

func plainRewrite(o impl.RewriteOut) impl.RewriteOut {
	return impl.RewriteOut{Book: plainBook(o.Book), Moved: plainAddrs(o.Moved), Blocked: plainAddrs(o.Blocked), Code: o.Code}
}

func wantRewrite(t *testing.T, what string, got impl.RewriteOut, want impl.RewriteOut) {
	t.Helper()
	if told(plainRewrite(got)) != told(plainRewrite(want)) {
		t.Errorf("%.600s: got %+v, want %+v", what, got, want)
	}
}

// wantMoved checks what MoveOf or EndOf tells: an address by its text, or none beside a code.
func wantMoved(t *testing.T, what string, got impl.AddrOut, text string, code int64) {
	t.Helper()
	if got.Code != code || impl.AddrText(got.Addr) != text || text == "" && !impl.SameAddr(got.Addr, impl.Addr{}) {
		t.Errorf("%.600s: got %+v, want %s, code %d", what, got, text, code)
	}
}

// Each kind of move, of what it moves, and of what it does not (then nothing is told).
func TestMoveOf(t *testing.T) {
	rows := [][3]string{
		// One, by its key.
		{"moved d.a d.b", "d.a", "d.b"},
		{"moved d.a d.b[3]", "d.a", "d.b[3]"},
		{"moved d.a[3] d.b", "d.a[3]", "d.b"},
		{"moved d.a[0] d.a[x]", "d.a[0]", "d.a[x]"},
		{"moved d.a[x] m/n/d.b[99]", "d.a[x]", "m/n/d.b[99]"},
		{"moved m/n/d.a m/d.a", "m/n/d.a", "m/d.a"},
		{"moved d.a d.b", "d.a[0]", ""},
		{"moved d.a d.b", "d.a[x]", ""},
		{"moved d.a d.b", "d.b", ""},
		{"moved d.a d.b", "d.aa", ""},
		{"moved d.a d.b", "e.a", ""},
		{"moved d.a d.b", "m/d.a", ""},
		{"moved d.a[0] d.b", "d.a", ""},
		{"moved d.a[0] d.b", "d.a[1]", ""},
		{"moved d.a[0] d.b", "d.a[x]", ""},
		{"moved d.a[x] d.b", "d.a[y]", ""},
		{"moved d.a[x] d.b", "d.a[0]", ""},
		{"moved m/d.a d.b", "d.a", ""},
		{"moved m/d.a d.b", "n/d.a", ""},
		{"moved m/d.a d.b", "m/m/d.a", ""},
		// All of a Block, each with its key.
		{"movedall d.a d.b", "d.a", "d.b"},
		{"movedall d.a d.b", "d.a[0]", "d.b[0]"},
		{"movedall d.a d.b", "d.a[99]", "d.b[99]"},
		{"movedall d.a d.b", "d.a[x]", "d.b[x]"},
		{"movedall d.a m/n/d.a", "d.a[7]", "m/n/d.a[7]"},
		{"movedall m/n/d.a d.a", "m/n/d.a[abcdefgh]", "d.a[abcdefgh]"},
		{"movedall d.a d.b", "d.b", ""},
		{"movedall d.a d.b", "d.b[0]", ""},
		{"movedall d.a d.b", "d.ab[0]", ""},
		{"movedall d.a d.b", "e.a[0]", ""},
		{"movedall d.a d.b", "m/d.a[0]", ""},
		{"movedall m/d.a d.b", "d.a", ""},
		{"movedall m/d.a d.b", "n/d.a", ""},
		{"movedall m/d.a d.b", "m/n/d.a", ""},
		// All Under a Path: of whatever Type, Name and key.
		{"movedhome m n", "m/d.a", "n/d.a"},
		{"movedhome m n", "m/e.b[0]", "n/e.b[0]"},
		{"movedhome m n", "m/e.b[x]", "n/e.b[x]"},
		{"movedhome m n", "m/o/d.a[2]", "n/o/d.a[2]"},
		{"movedhome m n", "m/m/d.a", "n/m/d.a"},
		{"movedhome m/n o/p", "m/n/d.a", "o/p/d.a"},
		{"movedhome m/n m/o", "m/n/d.a", "m/o/d.a"},
		{"movedhome m n", "d.a", ""},
		{"movedhome m n", "n/d.a", ""},
		{"movedhome m n", "mm/d.a", ""},
		{"movedhome m n", "n/m/d.a", ""},
		{"movedhome m/n o", "m/d.a", ""},
		{"movedhome m/n o", "n/d.a", ""},
		{"movedhome m/n o", "m/o/d.a", ""},
		{"movedhome m/n o", "n/m/d.a", ""},
		// To a home below it, or above it: as long as it is not too far down then.
		{"movedhome m m/n", "m/d.a[1]", "m/n/d.a[1]"},
		{"movedhome m m/m", "m/d.a", "m/m/d.a"},
		{"movedhome m m/n", "m/n/d.a", ""},
		{"movedhome m m/n", "m/o/d.a", ""},
		{"movedhome m/n m", "m/n/d.a[x]", "m/d.a[x]"},
		{"movedhome m/n n", "m/n/d.a", "n/d.a"},
		{"movedhome m/n m", "m/d.a", ""},
		{"movedhome m n/o", "m/d.a", "n/o/d.a"},
		{"movedhome m n/o", "m/p/d.a", ""},
	}
	for _, r := range rows {
		code := int64(impl.OK)
		if r[2] == "" {
			code = impl.ErrNone
		}
		wantMoved(t, r[0]+" of "+r[1], impl.MoveOf(readMove(t, r[0]), readAddr(t, r[1])), r[2], code)
	}
}

// fewAddrs are all addresses of a few words.
func fewAddrs() []impl.Addr {
	var l []impl.Addr
	for _, path := range [][]string{nil, {"a"}, {"b"}, {"a", "a"}, {"a", "b"}, {"b", "a"}} {
		for _, name := range []string{"a", "b"} {
			a := impl.Addr{Path: path, Type: "d", Name: name}
			zero, one, x := a, a, a
			zero.Kind, one.Kind, one.N, x.Kind, x.Key = 1, 1, 1, 2, "x"
			l = append(l, a, zero, one, x)
		}
	}
	return l
}

// fewEnds are all that may be an end of a move of that kind, of a few words.
func fewEnds(kind int64) []impl.Addr {
	if kind == impl.MvHome {
		return []impl.Addr{home("a"), home("b"), home("a", "a"), home("a", "b"), home("b", "a")}
	}
	return slices.DeleteFunc(fewAddrs(), func(a impl.Addr) bool { return kind == impl.MvAll && a.Kind > 0 })
}

func fewMoves() []impl.Move {
	var l []impl.Move
	for kind := int64(1); kind <= 3; kind++ {
		for _, from := range fewEnds(kind) {
			for _, to := range fewEnds(kind) {
				m := impl.Move{Kind: kind, From: from, To: to}
				if !impl.SameAddr(from, to) {
					l = append(l, m)
				}
			}
		}
	}
	return l
}

// All moves of a few words, and all addresses of them.
func TestMoveOfFewWords(t *testing.T) {
	moved := 0
	for _, m := range fewMoves() {
		for _, a := range fewAddrs() {
			text, goes := moveTold(m, impl.AddrText(a))
			code := int64(impl.ErrNone)
			if goes {
				code = impl.OK
				moved++
			} else {
				text = ""
			}
			got := impl.MoveOf(m, a)
			if got.Code != code || impl.AddrText(got.Addr) != text {
				wantMoved(t, told(m)+" of "+told(a), got, text, code)
			}
		}
	}
	if moved < 2000 {
		t.Errorf("%d are moved", moved)
	}
}

// wrongMoves differ from a right move in one thing each, or more.
func wrongMoves() []impl.Move {
	l := []impl.Move{{}, {Kind: 1}, {Kind: 2}, {Kind: 3}, {Kind: 1, From: diskA, To: diskA}, {Kind: 2, From: diskA, To: diskA}, {Kind: 3, From: home("m"), To: home("m")},
		{Kind: 0, From: diskA, To: bareB()}, {Kind: 4, From: diskA, To: bareB()}, {Kind: -1, From: home("m"), To: home("n")}, {Kind: 4, From: home("m"), To: home("n")},
		{Kind: 1, From: diskA, To: impl.Addr{Type: "net", Name: "a"}}, {Kind: 2, From: diskA, To: impl.Addr{Type: "net", Name: "a"}},
		{Kind: 2, From: diskA, To: diskB}, {Kind: 2, From: diskB, To: diskA}, {Kind: 3, From: diskA, To: bareB()}, {Kind: 3, From: bareB(), To: diskA}, {Kind: 3, From: diskA, To: home("m")},
		{Kind: 3, From: home("m"), To: diskB}, {Kind: 3, From: home("m"), To: home()}, {Kind: 3, From: home(), To: home("m")}, {Kind: 3, From: home("m"), To: home("m", "n", "o")},
		{Kind: 1, From: home("m"), To: home("n")}, {Kind: 2, From: home("m"), To: home("n")}, {Kind: 3, From: home(manyWords(401)...), To: home("m")}}
	for _, a := range wrongAddrs {
		for kind := int64(0); kind <= 4; kind++ {
			l = append(l, impl.Move{Kind: kind, From: a, To: diskA}, impl.Move{Kind: kind, From: diskA, To: a}, impl.Move{Kind: kind, From: a, To: home("m")}, impl.Move{Kind: kind, From: home("m"), To: a})
		}
	}
	return slices.DeleteFunc(l, func(m impl.Move) bool { return impl.MoveRight(m) })
}

func someMoves(t *testing.T) []impl.Move {
	t.Helper()
	return readConfig(t, "moved disk.a disk.b\nmoved disk.a[3] m/n/disk.b[10]\nmovedall disk.a disk.c\nmovedall m/n/disk.b disk.b\nmovedhome m n\nmovedhome m/n o\n").Moves
}

// A move that is not right, an address that is not right, and both: none of them is moved, nor told.
func TestMoveOfWhatIsNotRight(t *testing.T) {
	if len(wrongMoves()) < 100 {
		t.Errorf("%d wrong moves", len(wrongMoves()))
	}
	for _, m := range wrongMoves() {
		for _, a := range append([]impl.Addr{diskA, diskB, bareB(), readAddr(t, "m/disk.a"), m.From}, wrongAddrs...) {
			wantMoved(t, told(m)+" of "+told(a), impl.MoveOf(m, a), "", impl.ErrForm)
		}
	}
	for _, m := range someMoves(t) {
		for _, a := range append(wrongAddrs, home("m"), home("m", "n")) {
			wantMoved(t, told(m)+" of "+told(a), impl.MoveOf(m, a), "", impl.ErrForm)
		}
	}
}

func TestMeets(t *testing.T) {
	rows := []struct {
		a, b string
		want bool
	}{
		// One and one.
		{"moved d.a d.b", "moved d.b d.c", true},
		{"moved d.a d.b[0]", "moved d.b[0] d.c", true},
		{"moved d.a d.b[x]", "moved d.b[x] d.a", true},
		{"moved d.b d.c", "moved d.a d.b", false},
		{"moved d.a d.b", "moved d.a d.c", false},
		{"moved d.a d.b", "moved d.c d.b", false},
		{"moved d.a d.b", "moved d.b[0] d.c", false},
		{"moved d.a d.b[0]", "moved d.b d.c", false},
		{"moved d.a d.b[0]", "moved d.b[1] d.c", false},
		{"moved d.a d.b[0]", "moved d.b[x] d.c", false},
		{"moved d.a d.b", "moved m/d.b d.c", false},
		{"moved d.a d.b", "moved d.a d.b", false},
		// One and all of a Block, and the other way.
		{"moved d.a d.b", "movedall d.b d.c", true},
		{"moved d.a d.b[0]", "movedall d.b d.c", true},
		{"moved d.a d.b[x]", "movedall d.b d.c", true},
		{"moved d.a m/d.b", "movedall d.b d.c", false},
		{"moved d.a d.bb", "movedall d.b d.c", false},
		{"movedall d.a d.b", "moved d.b d.c", true},
		{"movedall d.a d.b", "moved d.b[0] d.c", true},
		{"movedall d.a d.b", "moved d.b[x] d.c", true},
		{"movedall d.a d.b", "moved d.a d.b", false},
		{"movedall d.a d.b", "moved m/d.b d.c", false},
		{"movedall e.a e.b", "moved d.b d.c", false},
		// All and all.
		{"movedall d.a d.b", "movedall d.b d.c", true},
		{"movedall d.a m/n/d.b", "movedall m/n/d.b d.a", true},
		{"movedall d.b d.c", "movedall d.a d.b", false},
		{"movedall d.a d.b", "movedall d.a d.b", false},
		{"movedall d.a m/d.b", "movedall d.b d.a", false},
		{"movedall d.a d.b", "movedall e.b e.a", false},
		// One and a home, and the other way.
		{"moved d.a m/d.b", "movedhome m n", true},
		{"moved d.a m/n/d.b[0]", "movedhome m n", true},
		{"moved d.a m/n/d.b[x]", "movedhome m/n o", true},
		{"moved d.a d.b", "movedhome m n", false},
		{"moved m/d.a d.b", "movedhome m n", false},
		{"moved d.a m/d.b", "movedhome m/n o", false},
		{"moved d.a m/n/d.b", "movedhome n o", false},
		{"moved d.a n/m/d.b", "movedhome m o", false},
		{"movedhome n m", "moved m/d.a d.b", true},
		{"movedhome n m", "moved m/n/d.a[0] d.b", true},
		{"movedhome n o/m", "moved o/m/d.a d.b", true},
		{"movedhome n o/m", "moved o/d.a d.b", false},
		{"movedhome n m", "moved d.a m/d.b", false},
		{"movedhome n m", "moved n/d.a d.b", false},
		{"movedhome n m", "moved mm/d.a d.b", false},
		// All and a home, and the other way.
		{"movedall d.a m/d.b", "movedhome m n", true},
		{"movedall d.a m/n/d.b", "movedhome m n", true},
		{"movedall d.a m/n/d.b", "movedhome m/n o", true},
		{"movedall d.a d.b", "movedhome m n", false},
		{"movedall d.a m/d.b", "movedhome m/n o", false},
		{"movedhome n m", "movedall m/d.a d.b", true},
		{"movedhome n m", "movedall m/n/d.a d.b", true},
		{"movedhome n m/o", "movedall m/d.a d.b", false},
		{"movedhome n m", "movedall d.a m/d.b", false},
		// Homes: the same, one under the other, and side by side; also where nothing could go so far down.
		{"movedhome m n", "movedhome n o", true},
		{"movedhome m n", "movedhome n/p o", true},
		{"movedhome m n/p", "movedhome n o", true},
		{"movedhome m n/p", "movedhome n/p o", true},
		{"movedhome m/o n/p", "movedhome n/p m/o", true},
		{"movedhome n o", "movedhome m n", false},
		{"movedhome m n", "movedhome m n", false},
		{"movedhome m n/p", "movedhome n/q o", false},
		{"movedhome m n/p", "movedhome p o", false},
		{"movedhome m n", "movedhome nn o", false},
		{"movedhome m n", "movedhome o/n p", false},
		{"movedhome m m/n", "movedhome m m/n", true},
		{"movedhome m/n m", "movedhome m/n m", true},
		{"movedhome m/n m/o", "movedhome m/n m/o", false},
	}
	for _, r := range rows {
		if got := impl.Meets(readMove(t, r.a), readMove(t, r.b)); got != r.want {
			t.Errorf("%s, and %s: %v", r.a, r.b, got)
		}
	}
}

// All ends of a few words: they meet just where one of all addresses is meant by both, whatever the other ends are.
func TestMeetsOfFewWords(t *testing.T) {
	var texts []string
	for _, a := range fewAddrs() {
		texts = append(texts, impl.AddrText(a))
	}
	var to, from []impl.Move
	for kind := int64(1); kind <= 3; kind++ {
		ends := fewEnds(kind)
		for i, end := range ends {
			for _, other := range []impl.Addr{ends[(i+1)%len(ends)], ends[(i+len(ends)/2)%len(ends)]} {
				to = append(to, impl.Move{Kind: kind, From: other, To: end})
				from = append(from, impl.Move{Kind: kind, From: end, To: other})
			}
		}
	}
	met := 0
	for _, a := range to {
		for _, b := range from {
			want := meetTold(a, b, texts)
			if want {
				met++
			}
			if got := impl.Meets(a, b); got != want {
				t.Errorf("%q, and %q: %v", impl.ConfigText(moves(a)), impl.ConfigText(moves(b)), got)
			}
		}
	}
	if met < 1000 {
		t.Errorf("%d meet", met)
	}
}

func TestMeetsOfWhatIsNotRight(t *testing.T) {
	for _, m := range wrongMoves() {
		for _, r := range append(someMoves(t), m, impl.Move{Kind: m.Kind, From: m.To, To: m.From}) {
			if impl.Meets(m, r) || impl.Meets(r, m) {
				t.Errorf("%+v meets %+v", m, r)
			}
		}
	}
}

// rowMoves are moves from each of so many names to the next one; the last one goes to the first one, if that is told.
func rowMoves(word string, many int, back bool) string {
	names := strings.Fields("d.a d.b d.c d.d d.e d.f d.g d.h d.i d.j d.k d.l d.m")
	text := ""
	for i := range many {
		to := names[i+1]
		if back && i == many-1 {
			to = names[0]
		}
		text += word + " " + names[i] + " " + to + "\n"
	}
	return text
}

// codeRows are configs, and what MovesCode tells of them.
func codeRows() map[int64][]string {
	ok := []string{
		"", "thing d.a\n", "thing d.a count 3\n  x = #\nthing d.b\n  y = @d.a[2]:x\n",
		"moved d.a d.b\n", "movedall d.a d.b\n", "movedhome m n\n",
		// Near to itself, but not there.
		"movedall d.a d.b\nmovedall d.b d.c\n", "movedall d.b d.c\nmovedall d.a d.b\n", "movedall d.a d.c\nmovedall d.b d.c\n",
		"moved d.a[0] d.a[1]\nmoved d.a[1] d.a[2]\n", "moved d.a d.b\nmoved d.b[0] d.a\n", "moved d.a[0] d.b[0]\nmoved d.b[1] d.a[0]\n", "moved d.a d.b\nmovedall d.b d.c\n",
		"movedall d.a d.b\nmovedall e.b e.a\n", "movedall d.a m/d.a\nmovedall n/d.a d.a\n", "movedall d.a d.b\nmoved d.c d.a\n",
		"movedhome m n\nmovedhome n o\n", "movedhome n o\nmovedhome m n\n", "movedhome m/a m/b\n", "movedhome m/a n\nmovedhome n m/b\n", "movedhome m/a n\nmovedhome o m\n",
		"movedhome m n\nmoved n/d.a d.a\n", "movedhome m n\nmovedall n/d.a d.a\n", "moved d.a m/d.a\nmovedhome m n\n",
		rowMoves("moved", 12, false), rowMoves("movedall", 12, false),
		// Of one From, but of two Kinds; of one Kind, but not quite of one From.
		"moved d.a d.b\nmovedall d.a d.c\n", "moved d.a[0] d.b\nmoved d.a[1] d.c\n", "moved d.a d.b\nmoved d.a[0] d.b\n", "moved d.a[0] d.b\nmoved d.a[a] d.b\n",
		"movedall d.a d.c\nmovedall d.b d.c\n", "movedall d.a d.c\nmovedall m/d.a d.c\n", "movedhome m o\nmovedhome n o\n", "movedhome m o\nmovedhome m/n o\n",
		// There is such a Thing, but none of the moves moves it.
		"thing d.b\nmoved d.a d.b\n", "thing d.b count 2\nmovedall d.a d.b\n", "thing d.a count 2\nmoved d.a[2] d.b\n", "thing d.a count 2\nmoved d.a d.b\n", "thing d.a\nmoved d.a[0] d.b\n",
		"thing d.a each k\nmoved d.a[l] d.b\n", "thing d.a count 0\nmovedall d.a d.b\n", "thing m/d.a count 0\nmovedhome m n\n", "thing n/d.a\nmovedhome m n\n", "thing d.m\nmovedhome m n\n",
		"thing m/x/d.a\nmovedhome m n/o\n", "thing m/d.a\nmovedhome m/x n\n", "thing m/d.a\nmovedall d.a d.b\n", "thing mm/d.a\nmovedhome m n\n",
	}
	there := []string{
		"moved d.a d.b\nmoved d.a d.c\n", "moved d.a d.b\nmoved d.a d.b\n", "moved d.a[0] d.b\nmoved d.a[0] d.c\n", "moved d.a[x] d.b\nmoved d.a[x] d.b[x]\n",
		"movedall d.a d.b\nmovedall d.a d.c\n", "movedall d.a d.b\nmovedall d.a d.b\n", "movedhome m n\nmovedhome m o\n", "movedhome m n\nmovedhome m n\n", "movedhome m/n o\nmovedhome m/n p\n",
		"moved d.a d.b\nmovedall d.a d.b\nmoved d.c d.d\nmoved d.a d.e\n", "movedhome m n\nmovedall d.a d.b\nmovedall d.c d.d\nmovedall d.c d.e\n",
		rowMoves("moved", 11, false) + "moved d.a d.z\n", "moved d.k d.z\n" + rowMoves("moved", 11, false),
	}
	state := []string{
		// By one move.
		"movedhome m m/n\n", "movedhome m/n m\n", "movedhome m m/m\n", "moved d.a d.b\nmovedhome m/n m\n",
		// By two.
		"movedall d.a d.b\nmovedall d.b d.a\n", "moved d.a d.b\nmoved d.b d.a\n", "moved d.a[0] d.a[x]\nmoved d.a[x] d.a[0]\n", "movedhome m n\nmovedhome n m\n", "movedhome m/n o\nmovedhome o m/n\n",
		"movedhome m n/o\nmovedhome n m\n", "movedhome m/n o\nmovedhome o m\n", "movedall d.a d.b\nmoved d.b[1] d.a[7]\n", "moved d.b d.a[7]\nmovedall d.a d.b\n",
		"moved n/d.a m/d.a\nmovedhome m n\n", "movedhome m n\nmoved n/d.a m/d.b\n", "movedhome m n\nmovedall n/d.a m/x/d.b\n", "movedall n/d.a m/d.a\nmovedhome m n\n",
		// By three and more, in whatever order they stand.
		"movedall d.a d.b\nmovedall d.b d.c\nmovedall d.c d.a\n", "movedall d.c d.a\nmovedall d.b d.c\nmovedall d.a d.b\n", "moved d.a d.b\nmoved d.b d.c\nmoved d.c d.a\n",
		"movedhome m n\nmovedhome n o\nmovedhome o m\n", "movedhome m n\nmovedall n/d.a d.a\nmoved d.a[3] m/d.a\n", "moved d.a[3] m/d.a\nmovedall n/d.a d.a\nmovedhome m n\n",
		rowMoves("moved", 4, true), rowMoves("movedall", 5, true), rowMoves("movedall", 12, true),
		// Also where what comes there first is not among those that come back.
		"movedall d.a d.b\nmovedall d.b d.c\nmovedall d.c d.b\n", "movedall d.z d.y\nmovedall d.b d.c\nmovedall d.c d.b\n", "movedall d.c d.b\nmovedall d.b d.c\nmoved d.b[0] d.z\n",
	}
	move := []string{
		"thing d.a\nmoved d.a d.b\n", "thing d.a\nmovedall d.a d.b\n", "thing d.a count 2\nmoved d.a[1] d.b\n", "thing d.a each k,l\nmoved d.a[l] d.b\n", "thing d.a count 2\nmovedall d.a d.b\n",
		"thing d.a each k\nmovedall d.a d.b\n", "thing m/d.a\nmovedhome m n\n", "thing m/x/d.a count 1\nmovedhome m n\n", "thing m/n/d.a\nmovedhome m/n o\n", "thing m/n/d.a\nmovedall m/n/d.a d.a\n",
		"thing a.a\nthing d.b\nthing z.z\nmoved d.a d.b\nmoved d.b d.c\n", "thing a.a\nthing d.a count 8\nmoved d.c d.d\nmoved d.a[7] d.b\n", "thing d.a\nthing m/d.b\nmovedhome m n\n",
		"thing z.z\nmovedhome m n\nmoved z.z z.a\n",
	}
	return map[int64][]string{impl.OK: ok, impl.ErrThere: there, impl.ErrState: state, impl.ErrMove: move,
		impl.ErrFull: {"thing a.a count 8\nthing a.b count 8\nthing a.c count 8\nthing a.d count 8\nthing a.e count 8\nthing a.f\nmoved d.a d.b\n"},
		impl.ErrNone: {"thing a.a\n  x = @a.b:x\n", noneTexts[0] + "movedhome m n\n"}, impl.ErrKind: {kindTexts[0] + "movedhome m n\n"}, impl.ErrRange: {rangeTexts[0] + "movedhome m n\n"}}
}

func TestMovesCode(t *testing.T) {
	for code, texts := range codeRows() {
		for _, text := range texts {
			if got := impl.MovesCode(readConfig(t, text)); got != code {
				t.Errorf("%q: got %d, want %d", text, got, code)
			}
			if got := movesCodeTold(readConfig(t, text)); got != code {
				t.Errorf("as foretold, %q: got %d, want %d", text, got, code)
			}
		}
	}
	for _, text := range append(slices.Clone(stateTexts), stateTexts[0]+"movedhome m n\n") {
		if got := impl.MovesCode(readConfig(t, text)); got != impl.ErrState {
			t.Errorf("%q: got %d", text, got)
		}
	}
}

// faultyConfig is a config with those faults the code of which is told: some that stand in no way of each other.
func faultyConfig(t *testing.T, faults ...int64) impl.Config {
	t.Helper()
	things, moved := "thing a.c\n", ""
	expr := ""
	for _, fault := range faults {
		switch fault {
		case impl.ErrThere:
			moved += "movedall b.a b.b\nmovedall b.a b.c\n"
		case impl.ErrState:
			moved += "movedall b.d b.e\nmovedall b.e b.d\n"
		case impl.ErrMove:
			moved += "movedall a.c a.d\n"
		case impl.ErrNone:
			expr = "@a.z:x"
		case impl.ErrKind:
			expr = kindSum
		case impl.ErrRange:
			expr = rangeSum
		}
	}
	if expr != "" {
		things += "  x = " + expr + "\n"
	}
	c := readConfig(t, things+moved)
	if slices.Contains(faults, impl.ErrFull) {
		for _, w := range abc(5) {
			c.Blocks = append(c.Blocks, counted(impl.Addr{Type: "z", Name: w}, 8))
		}
	}
	if slices.Contains(faults, impl.ErrForm) {
		c.Moves = append(c.Moves, impl.Move{Kind: 1, From: diskA, To: diskA})
	}
	if slices.Contains(faults, impl.ErrSize) {
		c.Moves = append(c.Moves, slices.Repeat([]impl.Move{{Kind: 1, From: diskA, To: diskB}}, 401)...)
	}
	return c
}

// faultSets are all ways in which several of these faults stand together, each with the code of the first one.
func faultSets() map[int64][][]int64 {
	sets := map[int64][][]int64{impl.OK: {nil}}
	for _, expand := range []int64{impl.ErrNone, impl.ErrKind, impl.ErrRange} {
		order := []int64{impl.ErrSize, impl.ErrForm, impl.ErrFull, expand, impl.ErrThere, impl.ErrState, impl.ErrMove}
		for bits := 1; bits < 1<<len(order); bits++ {
			var set []int64
			for i, code := range order {
				if bits>>i&1 == 1 {
					set = append(set, code)
				}
			}
			sets[set[0]] = append(sets[set[0]], set)
		}
	}
	return sets
}

// The first fault is told by all, wherever the moves are asked for, and nothing stands beside it.
func TestMovesFaultsInOrder(t *testing.T) {
	addrs := append([]impl.Addr{diskA, readAddr(t, "a.c"), readAddr(t, "b.a")}, wrongAddrs...)
	for code, sets := range faultSets() {
		for _, set := range sets {
			c := faultyConfig(t, set...)
			what := fmt.Sprint(set)
			if got := impl.MovesCode(c); got != code {
				t.Errorf("MovesCode of %s: got %d", what, got)
			}
			for i, a := range addrs {
				switch {
				case i >= 3 && code != impl.ErrSize:
					wantMoved(t, "EndOf beside "+what, impl.EndOf(c, a), "", impl.ErrForm)
				case code != impl.OK:
					wantMoved(t, "EndOf beside "+what, impl.EndOf(c, a), "", code)
				}
			}
			for _, l := range bookFields() {
				want := impl.RewriteOut{Book: l.of, Code: code}
				switch {
				case code == impl.ErrSize || len(l.of) > 400:
					want.Code = impl.ErrSize
				case !l.right:
					want.Code = impl.ErrForm
				}
				if want.Code != impl.OK {
					want.Book = nil
				}
				wantRewrite(t, l.what+" beside "+what, impl.Rewrite(c, l.of), want)
			}
		}
	}
	if len(faultSets()) != 9+1 {
		t.Errorf("%d first codes", len(faultSets()))
	}
}

// Each code of a config, beside what is right and what is not.
func TestEndOfBesideCodes(t *testing.T) {
	for code, texts := range codeRows() {
		for _, text := range texts {
			c := readConfig(t, text)
			for _, a := range wrongAddrs {
				wantMoved(t, text, impl.EndOf(c, a), "", impl.ErrForm)
			}
			if code == impl.OK {
				continue
			}
			wantMoved(t, text, impl.EndOf(c, readAddr(t, "d.a")), "", code)
			wantMoved(t, text, impl.EndOf(c, zAddr()), "", code)
			wantRewrite(t, text, impl.Rewrite(c, nil), impl.RewriteOut{Code: code})
			wantRewrite(t, text, impl.Rewrite(c, things(t, "d.a", "d.b d.a")), impl.RewriteOut{Code: code})
		}
	}
}

// A config that is not right, whatever of it is not.
func TestMovesOfWhatIsNotRight(t *testing.T) {
	check := func(what string, c impl.Config, code int64) {
		t.Helper()
		if got := impl.MovesCode(c); got != code {
			t.Errorf("MovesCode of %.300s: got %d, want %d", what, got, code)
		}
		wantMoved(t, what, impl.EndOf(c, diskA), "", code)
		wantRewrite(t, what, impl.Rewrite(c, rowOf(3)), impl.RewriteOut{Code: code})
		wantRewrite(t, what, impl.Rewrite(c, nil), impl.RewriteOut{Code: code})
		wantRewrite(t, what, impl.Rewrite(c, rowOf(401)), impl.RewriteOut{Code: impl.ErrSize})
	}
	right := someMoves(t)
	for _, m := range wrongMoves() {
		check(told(m), moves(m), impl.ErrForm)
		check("behind right ones "+told(m), moves(append(slices.Clone(right), m)...), impl.ErrForm)
		check("ahead of right ones "+told(m), moves(append([]impl.Move{m}, right...)...), impl.ErrForm)
	}
	for _, turn := range turns {
		c := fullConfig()
		turn(&c)
		if !impl.ConfigRight(c) {
			check(told(c), c, impl.ErrForm)
		}
	}
	check("a block without an Addr", blocks(impl.Block{}), impl.ErrForm)
	check("blocks that do not rise", blocks(block(bareB()), block(diskA)), impl.ErrForm)
	check("a sum that stands within itself", single(ring(1, index)), impl.ErrForm)
	check("a folded sum", single(folded(ref(diskA, "p"))), impl.ErrForm)
	for many := range 15 {
		m, _ := manyMoves(many)
		if many > 12 {
			check(fmt.Sprint(many, " moves"), moves(m...), impl.ErrForm)
		}
	}
	b, m := slices.Repeat([]impl.Block{block(diskA)}, 402), slices.Repeat([]impl.Move{{Kind: 2, From: bareB(), To: diskA}}, 402)
	for _, many := range []int{400, 401, 402} {
		code := int64(impl.ErrForm)
		if many > 400 {
			code = impl.ErrSize
		}
		check(fmt.Sprint(many, " blocks"), blocks(b[:many]...), code)
		check(fmt.Sprint(many, " moves"), moves(m[:many]...), code)
		check(fmt.Sprint(many, " moves, and no right block"), impl.Config{Blocks: make([]impl.Block, 3), Moves: m[:many]}, code)
		check(fmt.Sprint(many, " blocks, and no right move"), impl.Config{Blocks: b[:many], Moves: make([]impl.Move, 3)}, code)
	}
}

// Promise 8: an address ends where no move moves it.
func TestEndOf(t *testing.T) {
	rows := []struct {
		text string
		ends [][2]string
	}{
		{"", [][2]string{{"d.a", "d.a"}, {"m/n/d.a[99]", "m/n/d.a[99]"}, {"d.a[x]", "d.a[x]"}}},
		{"moved d.a d.b\n", [][2]string{{"d.a", "d.b"}, {"d.b", "d.b"}, {"d.a[0]", "d.a[0]"}, {"m/d.a", "m/d.a"}}},
		{"movedall d.a m/d.b\n", [][2]string{{"d.a", "m/d.b"}, {"d.a[0]", "m/d.b[0]"}, {"d.a[x]", "m/d.b[x]"}, {"m/d.b", "m/d.b"}, {"m/d.a", "m/d.a"}}},
		{"movedhome m n\n", [][2]string{{"m/d.a[3]", "n/d.a[3]"}, {"m/m/e.b", "n/m/e.b"}, {"n/d.a", "n/d.a"}, {"d.m", "d.m"}}},
		// Along several moves, in whatever order they stand.
		{"movedall d.a d.b\nmovedall d.b d.c\n", [][2]string{{"d.a[2]", "d.c[2]"}, {"d.b", "d.c"}, {"d.c", "d.c"}}},
		{"movedall d.b d.c\nmovedall d.a d.b\n", [][2]string{{"d.a[2]", "d.c[2]"}, {"d.b", "d.c"}, {"d.c", "d.c"}}},
		{rowMoves("movedall", 12, false), [][2]string{{"d.a[x]", "d.m[x]"}, {"d.b", "d.m"}, {"d.l[7]", "d.m[7]"}, {"d.m", "d.m"}, {"d.n", "d.n"}}},
		{rowMoves("moved", 12, false), [][2]string{{"d.a", "d.m"}, {"d.f", "d.m"}, {"d.a[0]", "d.a[0]"}}},
		{"moved d.a[0] d.a[1]\nmoved d.a[1] d.a[x]\nmovedall d.b d.a\n", [][2]string{{"d.b[0]", "d.a[x]"}, {"d.b[1]", "d.a[x]"}, {"d.b[2]", "d.a[2]"}, {"d.b", "d.a"}, {"d.a[0]", "d.a[x]"}}},
		{"movedhome m n\nmoved n/d.a d.a\nmovedall d.a o/d.z\n", [][2]string{{"m/d.a", "o/d.z"}, {"m/d.a[1]", "n/d.a[1]"}, {"n/d.a", "o/d.z"}, {"m/n/d.a", "n/n/d.a"}, {"d.a[5]", "o/d.z[5]"}}},
		{"movedhome m n\nmovedhome n/p o\n", [][2]string{{"m/p/d.a", "o/d.a"}, {"m/d.a", "n/d.a"}, {"n/p/d.a", "o/d.a"}, {"m/q/d.a", "n/q/d.a"}}},
		{"movedhome m n/o\nmovedhome n/o p\n", [][2]string{{"m/d.a", "p/d.a"}, {"n/o/d.a", "p/d.a"}, {"n/d.a", "n/d.a"}, {"m/x/d.a", "m/x/d.a"}}},
		// The first one of the moves that moves it, at each step.
		{"moved d.a[0] d.x\nmovedall d.a d.y\n", [][2]string{{"d.a[0]", "d.x"}, {"d.a[1]", "d.y[1]"}, {"d.a", "d.y"}}},
		{"movedall d.a d.y\nmoved d.a[0] d.x\n", [][2]string{{"d.a[0]", "d.y[0]"}, {"d.a[1]", "d.y[1]"}, {"d.a", "d.y"}}},
		{"movedhome m n\nmovedhome m/p o\n", [][2]string{{"m/p/d.a", "n/p/d.a"}, {"m/d.a", "n/d.a"}}},
		{"movedhome m/p o\nmovedhome m n\n", [][2]string{{"m/p/d.a", "o/d.a"}, {"m/q/d.a", "n/q/d.a"}}},
		{"movedhome m n\nmovedall m/d.a d.a\nmoved m/d.a d.b\n", [][2]string{{"m/d.a", "n/d.a"}}},
		{"movedall m/d.a d.a\nmovedhome m n\nmoved m/d.a d.b\n", [][2]string{{"m/d.a", "d.a"}, {"m/d.b", "n/d.b"}}},
		// One that would be too far down does not go that way, but another way it does.
		{"movedhome m n/o\n", [][2]string{{"m/d.a", "n/o/d.a"}, {"m/x/d.a", "m/x/d.a"}}},
		{"movedhome m n/o\nmovedall m/x/d.a d.a\n", [][2]string{{"m/x/d.a[1]", "d.a[1]"}, {"m/x/d.b", "m/x/d.b"}}},
		{"movedhome m n/o\nmovedhome m/x q\n", [][2]string{{"m/x/d.a", "q/d.a"}, {"m/y/d.a", "m/y/d.a"}}},
		// Beside what there is to be, also where that is an end.
		{"thing d.c count 2\n  x = #\nmovedall d.a d.b\nmovedall d.b d.c\n", [][2]string{{"d.a[0]", "d.c[0]"}, {"d.a[7]", "d.c[7]"}, {"d.c[1]", "d.c[1]"}}},
	}
	for _, r := range rows {
		c := readConfig(t, r.text)
		for _, e := range r.ends {
			what := r.text + "the end of " + e[0]
			wantMoved(t, what, impl.EndOf(c, readAddr(t, e[0])), e[1], impl.OK)
			wantMoved(t, what+", again", impl.EndOf(c, readAddr(t, e[1])), e[1], impl.OK)
			for _, m := range c.Moves {
				wantMoved(t, what+" is moved", impl.MoveOf(m, readAddr(t, e[1])), "", impl.ErrNone)
			}
		}
	}
}

// moveRowOf is what Rewrite tells, by texts.
type moveRowOf struct {
	config, book, want, moved, blocked string
}

func rewriteRows() []moveRowOf {
	row, back := rowMoves("movedall", 3, false), "movedall d.d d.c\nmovedall d.c d.b\nmovedall d.b d.a\n"
	return []moveRowOf{
		// No things, or no moves, or none that moves one.
		{"", "", "", "", ""},
		{"movedall d.a d.b\nmovedhome m n\n", "", "", "", ""},
		{"", "d.a p=1 <d.b\nd.b\n", "d.a p=1 <d.b\nd.b\n", "", ""},
		{"movedall d.a d.b\n", "d.b\nd.c p=1\nm/d.a\n", "d.b\nd.c p=1\nm/d.a\n", "", ""},
		// One that goes, with all else as it is.
		{"movedall d.a d.b\n", "d.a\n", "d.b\n", "d.a", ""},
		{"moved d.a d.b[3]\n", "d.a p=1 q=\"x\" <a.a <z.z\n", "d.b[3] p=1 q=\"x\" <a.a <z.z\n", "d.a", ""},
		{"movedhome m n/o\n", "d.a\nm/d.a[x] p=-5\nm/q/d.a\n", "d.a\nm/q/d.a\nn/o/d.a[x] p=-5\n", "m/d.a[x]", ""},
		{"moved d.b d.z\n", "a.a p=1\nd.b p=2\nd.y p=3\nz.z p=4\n", "a.a p=1\nd.y p=3\nd.z p=2\nz.z p=4\n", "d.b", ""},
		{"moved d.z d.b\n", "a.a p=1\nd.y p=3\nd.z p=2\nz.z p=4\n", "a.a p=1\nd.b p=2\nd.y p=3\nz.z p=4\n", "d.z", ""},
		{rowMoves("movedall", 12, false), "d.a[5] p=5\n", "d.m[5] p=5\n", "d.a[5]", ""},
		// Several that go, each to its own end.
		{"movedall d.a d.b\n", "d.a\nd.a[0]\nd.a[1] p=1\nd.a[x]\n", "d.b\nd.b[0]\nd.b[1] p=1\nd.b[x]\n", "d.a d.a[0] d.a[1] d.a[x]", ""},
		{"movedall d.a d.z\nmovedall d.b d.c\n", "d.a p=1\nd.b p=2\n", "d.c p=2\nd.z p=1\n", "d.a d.b", ""},
		{"movedhome m n\nmovedhome o a\n", "m/d.a p=1\nm/x/d.a p=2\nn/d.b p=3\no/d.a p=4\n", "a/d.a p=4\nn/d.a p=1\nn/d.b p=3\nn/x/d.a p=2\n", "m/d.a m/x/d.a o/d.a", ""},
		{"moved d.a[0] d.x\nmovedall d.a d.y\n", "d.a[0] p=0\nd.a[1] p=1\n", "d.x p=0\nd.y[1] p=1\n", "d.a[0] d.a[1]", ""},
		{"movedall d.a d.y\nmoved d.a[0] d.x\n", "d.a[0] p=0\nd.a[1] p=1\n", "d.y[0] p=0\nd.y[1] p=1\n", "d.a[0] d.a[1]", ""},
		// Two that go the one behind the other: both end there, and the first one is there first, by its Addr and not by its moves.
		{"movedall d.a d.b\nmovedall d.b d.c\n", "d.a p=1\nd.b p=2\n", "d.b p=2\nd.c p=1\n", "d.a", "d.b"},
		{"movedall d.b d.c\nmovedall d.a d.b\n", "d.a p=1\nd.b p=2\n", "d.b p=2\nd.c p=1\n", "d.a", "d.b"},
		{"movedall d.c d.b\nmovedall d.b d.a\n", "d.b p=2\nd.c p=3\n", "d.a p=2\nd.c p=3\n", "d.b", "d.c"},
		{"moved d.a[0] d.a[1]\nmoved d.a[1] d.a[2]\n", "d.a[0] p=0\nd.a[1] p=1\n", "d.a[1] p=1\nd.a[2] p=0\n", "d.a[0]", "d.a[1]"},
		// With one end.
		{"movedall d.z d.m\nmovedall d.a d.m\n", "d.a p=1\nd.z p=2\n", "d.m p=1\nd.z p=2\n", "d.a", "d.z"},
		{"moved d.a d.m\nmoved d.b d.m\nmoved d.c d.m\n", "d.a p=1\nd.b p=2\nd.c p=3\n", "d.b p=2\nd.c p=3\nd.m p=1\n", "d.a", "d.b d.c"},
		{"moved d.a d.m\nmoved d.b d.m\nmoved d.c d.m\n", "d.b p=2\nd.c p=3\n", "d.c p=3\nd.m p=2\n", "d.b", "d.c"},
		{"movedhome m o\nmovedhome n o\n", "m/d.a p=1\nm/d.b p=2\nn/d.b p=3\nn/d.c p=4\n", "n/d.b p=3\no/d.a p=1\no/d.b p=2\no/d.c p=4\n", "m/d.a m/d.b n/d.c", "n/d.b"},
		{"movedall d.a d.m\nmoved d.b d.m[1]\n", "d.a[0] p=0\nd.a[1] p=1\nd.b p=2\n", "d.b p=2\nd.m[0] p=0\nd.m[1] p=1\n", "d.a[0] d.a[1]", "d.b"},
		// The end is taken by one that stays.
		{"movedall d.a d.b\n", "d.a p=1\nd.b p=2\n", "d.a p=1\nd.b p=2\n", "", "d.a"},
		{"movedall d.b d.a\n", "d.a p=1\nd.b p=2\n", "d.a p=1\nd.b p=2\n", "", "d.b"},
		{"movedall d.a d.b\n", "d.a\nd.a[0]\nd.a[1]\nd.b[0]\n", "d.a[0]\nd.b\nd.b[0]\nd.b[1]\n", "d.a d.a[1]", "d.a[0]"},
		{"movedhome m n\n", "m/d.a p=1\nm/d.b p=2\nn/d.b p=3\n", "m/d.b p=2\nn/d.a p=1\nn/d.b p=3\n", "m/d.a", "m/d.b"},
		{"movedhome m n/o\nmovedall d.a m/x/d.a\n", "d.a p=1\nm/x/d.a p=2\n", "d.a p=1\nm/x/d.a p=2\n", "", "d.a"},
		{"moved d.a d.m\nmoved d.b d.m\nmoved d.c d.x\n", "d.a\nd.b\nd.c\nd.m\n", "d.a\nd.b\nd.m\nd.x\n", "d.c", "d.a d.b"},
		// By one that goes away itself, and by what is blocked: in a row of two, three and four.
		{"movedall d.a d.b\nmovedall d.b d.c\n", "d.a p=1\nd.b p=2\nd.c p=3\n", "d.a p=1\nd.b p=2\nd.c p=3\n", "", "d.a d.b"},
		{row, "d.a p=1\nd.b p=2\nd.c p=3\n", "d.b p=2\nd.c p=3\nd.d p=1\n", "d.a", "d.b d.c"},
		{row, "d.b p=2\nd.c p=3\n", "d.c p=3\nd.d p=2\n", "d.b", "d.c"},
		{row, "d.a p=1\nd.b p=2\nd.c p=3\nd.d p=4\n", "d.a p=1\nd.b p=2\nd.c p=3\nd.d p=4\n", "", "d.a d.b d.c"},
		{back, "d.b p=2\nd.c p=3\nd.d p=4\n", "d.a p=2\nd.c p=3\nd.d p=4\n", "d.b", "d.c d.d"},
		{back, "d.a p=1\nd.b p=2\nd.c p=3\nd.d p=4\n", "d.a p=1\nd.b p=2\nd.c p=3\nd.d p=4\n", "", "d.b d.c d.d"},
		{rowMoves("moved", 12, false), "d.a\nd.b\nd.c\nd.d\nd.e\nd.f\nd.g\nd.h\nd.i\nd.j\nd.k\nd.l\nd.m\n", "d.a\nd.b\nd.c\nd.d\nd.e\nd.f\nd.g\nd.h\nd.i\nd.j\nd.k\nd.l\nd.m\n", "",
			"d.a d.b d.c d.d d.e d.f d.g d.h d.i d.j d.k d.l"},
		{"movedhome m n\nmovedhome n o\n", "m/d.a p=1\nn/d.a p=2\nn/d.b p=3\no/d.b p=4\n", "n/d.a p=2\nn/d.b p=3\no/d.a p=1\no/d.b p=4\n", "m/d.a", "n/d.a n/d.b"},
		// Needs stay as they are, also those that name what goes or where it goes,
		{"movedall d.b d.c\n", "d.a <d.b <d.c\nd.b p=1\n", "d.a <d.b <d.c\nd.c p=1\n", "d.b", ""},
		{"movedall d.a d.c\n", "d.a <d.b\nd.b <d.a\n", "d.b <d.a\nd.c <d.b\n", "d.a", ""},
		{"movedall d.a d.c\nmovedall d.b d.d\n", "d.a <d.b\nd.b <d.a\n", "d.c <d.b\nd.d <d.a\n", "d.a d.b", ""},
		// but for one that is its own Addr then.
		{"movedall d.a d.b\n", "d.a <d.b\n", "d.b\n", "d.a", ""},
		{"movedall d.a d.b\n", "d.a p=1 <a.a <d.b <m/d.b\n", "d.b p=1 <a.a <m/d.b\n", "d.a", ""},
		{"movedall d.a d.b\n", "d.a[0] <d.b <d.b[0] <d.b[1]\n", "d.b[0] <d.b <d.b[1]\n", "d.a[0]", ""},
		{"movedhome m n\n", "m/d.a <d.a <n/d.a\nm/d.b <n/d.a\n", "n/d.a <d.a\nn/d.b <n/d.a\n", "m/d.a m/d.b", ""},
		{"movedall d.a d.b\nmovedall d.b d.c\n", "d.a <d.b <d.c\n", "d.c <d.b\n", "d.a", ""},
		{"movedall d.a d.b\n", "d.a <d.b\nd.b\n", "d.a <d.b\nd.b\n", "", "d.a"},
		{"movedall d.b d.c\nmovedall d.a d.c\n", "d.a <d.c\nd.b <d.c\n", "d.b <d.c\nd.c\n", "d.a", "d.b"},
		// Beside what there is to be: that stands in the way only if it stands in the book.
		{"thing d.c count 2\n  x = #\nmovedall d.a d.b\nmovedall d.b d.c\n", "d.a[0] p=1\nd.a[1] p=2\nd.c[1] p=3\n", "d.a[1] p=2\nd.c[0] p=1\nd.c[1] p=3\n", "d.a[0]", "d.a[1]"},
	}
}

// checkRewrite checks all that promise 8 says of a right config, the MovesCode of which is OK, and a right book.
func checkRewrite(t *testing.T, c impl.Config, l []impl.Thing) impl.RewriteOut {
	t.Helper()
	out := impl.Rewrite(c, l)
	what := impl.ConfigText(c) + thingLines(l)
	if out.Code != impl.OK || !impl.BookRight(out.Book) || len(out.Book) != len(l) {
		t.Errorf("%s: code %d, and the book %q", what, out.Code, thingLines(out.Book))
	}
	rise := func(l []impl.Addr) bool {
		return slices.IsSortedFunc(l, whichFirst) && len(risen(slices.Clone(l))) == len(l)
	}
	if !rise(out.Moved) || !rise(out.Blocked) {
		t.Errorf("%s: they do not rise: %q, %q", what, orderLine(out.Moved), orderLine(out.Blocked))
	}
	has := func(l []impl.Addr, a impl.Addr) bool {
		return slices.ContainsFunc(l, func(x impl.Addr) bool { return impl.SameAddr(x, a) })
	}
	many := 0
	for _, x := range l {
		end := impl.EndOf(c, x.Addr).Addr
		goes, blocked := has(out.Moved, x.Addr), has(out.Blocked, x.Addr)
		if goes && blocked || (goes || blocked) == impl.SameAddr(end, x.Addr) {
			t.Errorf("%s: %s, which ends at %s, goes %v, blocked %v", what, impl.AddrText(x.Addr), impl.AddrText(end), goes, blocked)
		}
		if goes || blocked {
			many++
		}
		if blocked && impl.SameAddr(impl.BookAt(out.Book, end).Addr, impl.Addr{}) {
			t.Errorf("%s: %s is blocked, and its end is not taken", what, impl.AddrText(x.Addr))
		}
		if goes {
			x.Addr, x.Needs = end, without(x.Needs, impl.AddrText(end))
		}
		wantThing(t, what, impl.BookAt(out.Book, x.Addr), x)
	}
	if many != len(out.Moved)+len(out.Blocked) {
		t.Errorf("%s: told of what is not there: %q, %q", what, orderLine(out.Moved), orderLine(out.Blocked))
	}
	wantRewrite(t, "moved again: "+what, impl.Rewrite(c, out.Book), impl.RewriteOut{Book: out.Book, Blocked: out.Blocked})
	return out
}

func TestRewrite(t *testing.T) {
	for _, r := range rewriteRows() {
		c, l := readConfig(t, r.config), readBook(t, r.book)
		want := impl.RewriteOut{Book: readBook(t, r.want), Moved: readAddrs(t, r.moved), Blocked: readAddrs(t, r.blocked)}
		wantRewrite(t, r.config+r.book, impl.Rewrite(c, l), want)
		wantRewrite(t, "as foretold: "+r.config+r.book, rewriteTold(c, l), want)
		checkRewrite(t, c, l)
	}
}

// All books of these things, and all choices of these moves, in two orders.
func TestRewriteOfFewThings(t *testing.T) {
	lines := strings.SplitAfter("movedall d.a d.b\nmoved d.b d.c\nmovedhome m n\nmoved n/d.a d.b\nmovedall d.c n/d.c\n", "\n")[:5]
	all := things(t, "d.a d.b d.c", "d.a[0] n/d.a", "d.b n/d.c", "d.c", "m/d.a d.b n/d.a", "m/d.c d.c n/d.c", "n/d.a", "n/d.c d.a")
	told, blocked := 0, 0
	for chosen := range 1 << len(lines) {
		text := ""
		for i, line := range lines {
			if chosen>>i&1 == 1 {
				text += line
			}
		}
		c := readConfig(t, text)
		back := moves(slices.Clone(c.Moves)...)
		slices.Reverse(back.Moves)
		for bits := range 1 << len(all) {
			var l []impl.Thing
			for i, x := range all {
				if bits>>i&1 == 1 {
					l = append(l, x)
				}
			}
			for _, c := range []impl.Config{c, back} {
				out := checkRewrite(t, c, l)
				wantRewrite(t, impl.ConfigText(c)+thingLines(l), out, rewriteTold(c, l))
				told += len(out.Moved)
				blocked += len(out.Blocked)
			}
		}
	}
	if told < 5000 || blocked < 5000 {
		t.Errorf("%d moved, %d blocked", told, blocked)
	}
}

// Configs and books of all kinds come to what the document says, told in another way than the program does.
func TestRewriteOfChance(t *testing.T) {
	codes := map[int64]int{}
	moved, blocked, most := 0, 0, 0
	for seed := range int64(2500) {
		by := chance{Rand: rand.New(rand.NewSource(seed)), wild: 3 + int(seed%80)}
		c := by.movedConfig()
		if !impl.ConfigRight(c) {
			t.Fatalf("not right: %+v", c)
		}
		l := by.movedBook(c)
		code := impl.MovesCode(c)
		codes[code]++
		if want := movesCodeTold(c); code != want {
			t.Errorf("%s: code %d, want %d", impl.ConfigText(c), code, want)
			continue
		}
		out := impl.Rewrite(c, l)
		wantRewrite(t, impl.ConfigText(c)+thingLines(l), out, rewriteTold(c, l))
		for range 5 {
			a := by.addrOf(c.Moves)
			end := ""
			if code == impl.OK {
				end = endTold(c.Moves, impl.AddrText(a))
			}
			wantMoved(t, impl.ConfigText(c)+impl.AddrText(a), impl.EndOf(c, a), end, code)
		}
		if code == impl.OK {
			checkRewrite(t, c, l)
		}
		moved += len(out.Moved)
		blocked += len(out.Blocked)
		most = max(most, len(out.Blocked))
	}
	for _, code := range []int64{impl.OK, impl.ErrThere, impl.ErrState, impl.ErrMove, impl.ErrNone, impl.ErrKind, impl.ErrRange, impl.ErrFull} {
		if codes[code] < 60 {
			t.Errorf("the codes are %v", codes)
		}
	}
	if moved < 3000 || blocked < 1000 || most < 5 {
		t.Errorf("%d moved, %d blocked, at most %d at once", moved, blocked, most)
	}
}

// As many things as there may be: all go, half of them go, or none.
func TestRewriteOfMany(t *testing.T) {
	c := readConfig(t, "movedhome m n\n")
	var there, gone, half []impl.Thing
	for i, x := range rowOf(40) {
		x.Needs = manyAddrs(60)[41:]
		from, to := x, x
		from.Addr.Path, to.Addr.Path = []string{"m"}, []string{"n"}
		there, gone = append(there, from), append(gone, to)
		if i%2 == 0 {
			half = append(half, from)
		}
	}
	addrs := func(l []impl.Thing) []impl.Addr {
		var out []impl.Addr
		for _, x := range l {
			out = append(out, x.Addr)
		}
		return out
	}
	wantRewrite(t, "40 that go", checkRewrite(t, c, there), impl.RewriteOut{Book: gone, Moved: addrs(there)})
	wantRewrite(t, "40 that stay", checkRewrite(t, c, gone), impl.RewriteOut{Book: gone})
	var blocked []impl.Thing
	for i := range gone {
		if i%2 == 0 {
			blocked = append(blocked, gone[i])
		}
	}
	full := append(slices.Clone(half), blocked...)
	wantRewrite(t, "20 that are blocked", checkRewrite(t, c, full), impl.RewriteOut{Book: full, Blocked: addrs(half)})
	for _, many := range []int{41, 399, 400, 401, 402} {
		code := int64(impl.ErrForm)
		if many > 400 {
			code = impl.ErrSize
		}
		wantRewrite(t, fmt.Sprint(many, " things"), impl.Rewrite(c, rowOf(many)), impl.RewriteOut{Code: code})
		wantRewrite(t, fmt.Sprint(many, " zero ones"), impl.Rewrite(c, make([]impl.Thing, many)), impl.RewriteOut{Code: code})
	}
	// Twelve moves to one end: the first one goes, the others stay.
	text, lines := "", ""
	for _, w := range abc(12) {
		text += "moved d." + w + " d.z\n"
		lines += "d." + w + "\n"
	}
	rest := readAddrs(t, strings.ReplaceAll(lines[4:], "\n", " "))
	wantRewrite(t, "twelve to one end", checkRewrite(t, readConfig(t, text), readBook(t, lines)), impl.RewriteOut{Book: readBook(t, lines[4:]+"d.z\n"), Moved: readAddrs(t, "d.a"), Blocked: rest})
	// One of as many Needs as there may be, one of which it becomes.
	far := impl.Thing{Addr: impl.Addr{Type: "a", Name: "z"}, Needs: manyAddrs(400)}
	for _, place := range []int{0, 1, 200, 399} {
		c := moves(impl.Move{Kind: impl.MvThing, From: far.Addr, To: far.Needs[place]})
		became := impl.Thing{Addr: far.Needs[place], Needs: slices.Delete(manyAddrs(400), place, place+1)}
		wantRewrite(t, "400 Needs", checkRewrite(t, c, []impl.Thing{far}), impl.RewriteOut{Book: []impl.Thing{became}, Moved: []impl.Addr{far.Addr}})
	}
}

// roomyMoves has right moves and blocks, with room behind each of its lists, in new memory.
func roomyMoves() impl.Config {
	a := func(kind string, name string, path ...string) impl.Addr {
		return impl.Addr{Path: roomy(path...), Type: kind, Name: name}
	}
	c := impl.Config{Blocks: append(make([]impl.Block, 0, 4), each(a("net", "a", "o", "p"), roomy("a", "b"), prop("p", key)))}
	c.Moves = append(make([]impl.Move, 0, 6),
		impl.Move{Kind: impl.MvThing, From: a("disk", "a", "m", "n"), To: a("disk", "z", "m", "n")},
		impl.Move{Kind: impl.MvAll, From: a("disk", "b", "m", "n"), To: a("disk", "c", "m", "n")},
		impl.Move{Kind: impl.MvHome, From: home(roomy("m", "n")...), To: home(roomy("o", "p")...)},
		impl.Move{Kind: impl.MvThing, From: a("left", "over"), To: a("left", "behind")})[:3]
	return c
}

// moveMemory is all that stands in the memory of a config and of its moves, also behind the ends of their lists.
func moveMemory(c impl.Config) []any {
	all := configMemory(c)
	for _, m := range c.Moves[:cap(c.Moves)] {
		all = append(all, m.From.Path[:cap(m.From.Path)], m.To.Path[:cap(m.To.Path)])
	}
	return all
}

// roomyBook is of things of which two go, one is blocked and one stays; with room behind each of its lists.
func roomyBook() []impl.Thing {
	l := append(make([]impl.Thing, 0, 8), roomyThings()...)
	stays, blocked := roomyThing("z"), roomyThing("y")
	stays.Addr.Path, blocked.Addr.Path[0], blocked.Addr.Path[1] = roomy("o", "p"), "m", "n"
	stays.Addr.Name = "y"
	blocked.Needs = append(blocked.Needs, impl.Addr{Path: roomy("o", "p"), Type: "disk", Name: "y"})
	l[0].Needs = append(l[0].Needs, impl.Addr{Path: roomy("o", "p"), Type: "disk", Name: "z"}, impl.Addr{Path: roomy("o", "p"), Type: "disk", Name: "zz"})
	return append(l, blocked, stays)
}

// No call changes what is handed in, nor what stands behind it in its memory, whatever it tells.
func TestMoveArgumentsStay(t *testing.T) {
	if out := checkRewrite(t, roomyMoves(), roomyBook()); len(out.Moved) != 2 || len(out.Blocked) != 1 || len(out.Book) != 4 {
		t.Errorf("it tells too little: %+v", out)
	}
	keep := func(l []impl.Thing) []impl.Thing { return l }
	confs := []func() impl.Config{roomyMoves, roomyConfig}
	for _, turn := range turns {
		confs = append(confs, func() impl.Config {
			c := fullConfig()
			turn(&c)
			return c
		})
	}
	for i, conf := range confs {
		for j, turn := range append(bookTurns, keep) {
			c, l, other := conf(), turn(roomyBook()), turn(roomyThings())
			memory := func() string { return told([]any{moveMemory(c), thingMemory(l), thingMemory(other)}) }
			before := memory()
			impl.MovesCode(c)
			impl.Rewrite(c, l)
			impl.Rewrite(c, other)
			impl.Rewrite(c, l[:min(len(l), 1)])
			for _, m := range c.Moves {
				impl.Meets(m, c.Moves[0])
				for _, x := range l {
					impl.MoveOf(m, x.Addr)
				}
			}
			for _, x := range l {
				impl.EndOf(c, x.Addr)
			}
			if after := memory(); after != before {
				t.Errorf("%d, %d: got %s, want %s", i, j, after, before)
			}
		}
	}
}

// No two lists of an answer share memory, nor with what was handed in; whoever writes to an answer changes nothing else.
func TestMoveAnswersAreNewMemory(t *testing.T) {
	c, l := roomyMoves(), roomyBook()
	before := told([]any{moveMemory(c), thingMemory(l)})
	rewrites := func() []impl.RewriteOut {
		return []impl.RewriteOut{impl.Rewrite(c, l), impl.Rewrite(c, l), impl.Rewrite(c, impl.Rewrite(c, l).Book), impl.Rewrite(impl.Config{}, l)}
	}
	addrs := func() []impl.Addr {
		var out []impl.Addr
		for _, x := range l {
			out = append(out, impl.EndOf(c, x.Addr).Addr, impl.EndOf(impl.Config{}, x.Addr).Addr)
			for _, m := range c.Moves {
				if to := impl.MoveOf(m, x.Addr); to.Code == impl.OK {
					out = append(out, to.Addr)
				}
			}
		}
		return out
	}
	answers, ends := rewrites(), addrs()
	want := told([]any{answers, ends})
	checkMemory(t, c, l, answers, ends)
	checkApart(t, answers, []any{c, l})
	checkApart(t, ends, []any{c, l})
	if len(ends) < 13 || len(answers[0].Moved) == 0 || len(answers[0].Blocked) == 0 || len(answers[2].Blocked) == 0 {
		t.Errorf("they tell too little: %+v, %+v", answers, ends)
	}
	for _, out := range answers {
		spoil(out.Book)
		for _, list := range [][]impl.Addr{out.Moved, out.Blocked} {
			for i := range list {
				list[i].Path[0] = "changed"
				list[i] = impl.Addr{}
			}
			_ = append(list, impl.Addr{})
		}
	}
	for i := range ends {
		ends[i].Path[0] = "changed"
		_ = append(ends[i].Path, "changed")
	}
	if after := told([]any{moveMemory(c), thingMemory(l)}); after != before {
		t.Errorf("got %s, want %s", after, before)
	}
	if again := told([]any{rewrites(), addrs()}); again != want {
		t.Errorf("got %s, want %s", again, want)
	}
}
