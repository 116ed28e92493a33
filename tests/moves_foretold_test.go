package tests

import (
	"slices"
	"strings"

	"loop.example/g00770/impl"
)

// What moves do, told in another way than the program does: an address is its text, and a home is how texts begin.

func homeTold(a impl.Addr) string {
	return strings.Join(a.Path, "/") + "/"
}

// meantTold asks whether a move of that Kind means that address by this end.
func meantTold(kind int64, end impl.Addr, text string) bool {
	switch kind {
	case impl.MvThing:
		return text == impl.AddrText(end)
	case impl.MvAll:
		bare, _, _ := strings.Cut(text, "[")
		return bare == impl.AddrText(end)
	}
	return strings.HasPrefix(text, homeTold(end))
}

func moveTold(m impl.Move, text string) (string, bool) {
	if !meantTold(m.Kind, m.From, text) {
		return "", false
	}
	switch m.Kind {
	case impl.MvThing:
		return impl.AddrText(m.To), true
	case impl.MvAll:
		return impl.AddrText(m.To) + text[len(impl.AddrText(m.From)):], true
	}
	to := homeTold(m.To) + text[len(homeTold(m.From)):]
	return to, strings.Count(to, "/") <= 2
}

// meetTold asks for each of these addresses whether both mean it.
func meetTold(a impl.Move, b impl.Move, texts []string) bool {
	return slices.ContainsFunc(texts, func(text string) bool {
		return meantTold(a.Kind, a.To, text) && meantTold(b.Kind, b.From, text)
	})
}

// meantBy are addresses of which at least one is meant by two ends of these moves, if there is any.
func meantBy(l []impl.Move) []string {
	var texts []string
	for _, m := range l {
		for _, end := range []impl.Addr{m.From, m.To} {
			text := impl.AddrText(end)
			if m.Kind == impl.MvHome {
				text = homeTold(end) + "q.q"
			}
			texts = append(texts, text)
		}
	}
	return texts
}

// backTold asks whether one may come back to where one was, by as many steps as there are moves.
func backTold(l []impl.Move) bool {
	texts := meantBy(l)
	leads := make([][]bool, len(l))
	for i, a := range l {
		for _, b := range l {
			leads[i] = append(leads[i], meetTold(a, b, texts))
		}
	}
	for by := range l {
		for from := range l {
			for to := range l {
				leads[from][to] = leads[from][to] || leads[from][by] && leads[by][to]
			}
		}
	}
	for i := range l {
		if leads[i][i] {
			return true
		}
	}
	return false
}

func twiceTold(l []impl.Move) bool {
	seen := map[string]bool{}
	for _, m := range l {
		text := string(rune('0'+m.Kind)) + homeTold(m.From) + impl.AddrText(m.From)
		if seen[text] {
			return true
		}
		seen[text] = true
	}
	return false
}

// movesCodeTold is what MovesCode tells of a right config.
func movesCodeTold(c impl.Config) int64 {
	made := expandTold(c)
	if made.Code != impl.OK {
		return made.Code
	}
	if twiceTold(c.Moves) {
		return impl.ErrThere
	}
	if backTold(c.Moves) {
		return impl.ErrState
	}
	for _, a := range made.Order {
		for _, m := range c.Moves {
			if _, moved := moveTold(m, impl.AddrText(a)); moved {
				return impl.ErrMove
			}
		}
	}
	return impl.OK
}

// endTold is asked only of moves that do not come back.
func endTold(l []impl.Move, text string) string {
	for _, m := range l {
		if to, moved := moveTold(m, text); moved {
			return endTold(l, to)
		}
	}
	return text
}

// rewriteTold is what Rewrite tells of a right config and a right book. Where one ends none is moved away: so that only
// what stays anyway, and what goes first, takes an end, and never what is blocked.
func rewriteTold(c impl.Config, l []impl.Thing) impl.RewriteOut {
	code := movesCodeTold(c)
	if code != impl.OK {
		return impl.RewriteOut{Code: code}
	}
	var out impl.RewriteOut
	taken := map[string]bool{}
	for _, x := range l {
		text := impl.AddrText(x.Addr)
		if endTold(c.Moves, text) == text {
			taken[text] = true
		}
	}
	for _, x := range l {
		text := impl.AddrText(x.Addr)
		end := endTold(c.Moves, text)
		switch {
		case end == text:
		case taken[end]:
			out.Blocked = append(out.Blocked, x.Addr)
		default:
			taken[end] = true
			out.Moved = append(out.Moved, x.Addr)
			x.Addr = impl.AddrRead(end).Addr
			x.Needs = without(x.Needs, end)
		}
		out.Book = append(out.Book, x)
	}
	slices.SortFunc(out.Book, func(x impl.Thing, y impl.Thing) int { return whichFirst(x.Addr, y.Addr) })
	return out
}

func whichFirst(a impl.Addr, b impl.Addr) int {
	switch {
	case impl.AddrLess(a, b):
		return -1
	case impl.AddrLess(b, a):
		return 1
	}
	return 0
}

// without are the same, in new memory, but for that of this text.
func without(l []impl.Addr, text string) []impl.Addr {
	var out []impl.Addr
	for _, a := range l {
		if impl.AddrText(a) != text {
			out = append(out, a)
		}
	}
	return out
}

// words of paths and names that moves by chance go up, so that they seldom come back.
var (
	upHomes = [][]string{nil, {"p"}, {"p", "s"}, {"q"}, {"q", "s"}, {"r"}, {"r", "s"}}
	upNames = []string{"c", "d", "e", "f"}
)

func (c chance) key(a impl.Addr) impl.Addr {
	switch c.Intn(4) {
	case 0:
		a.Kind, a.N = 1, int64(c.Intn(3))
	case 1:
		a.Kind, a.Key = 2, pick(c, "a", "b")
	}
	return a
}

// wildMove is any right move, be it of what a block tells of.
func (c chance) wildMove() impl.Move {
	homes := append(slices.Clone(upHomes), []string{"m"}, []string{"m", "n"}, []string{"p", "p"})
	for {
		m := impl.Move{Kind: int64(1 + c.Intn(3))}
		for _, end := range []*impl.Addr{&m.From, &m.To} {
			end.Path = pick(c, homes...)
			if m.Kind == impl.MvHome {
				continue
			}
			end.Type, end.Name = pick(c, "disk", "disk", "net"), pick(c, "a", "b", "c", "d")
			if m.Kind == impl.MvThing {
				*end = c.key(*end)
			}
		}
		if impl.MoveRight(m) {
			return m
		}
	}
}

// upMove goes to a home, or a name, that is behind the one it comes from, or to what a block tells of.
func (c chance) upMove(l []impl.Block) impl.Move {
	m := impl.Move{Kind: int64(1 + c.Intn(3))}
	low := c.Intn(len(upHomes))
	high := low + c.Intn(len(upHomes)-low)
	if m.Kind == impl.MvHome {
		low, high = 1+c.Intn(4), 5+c.Intn(2)
		if low < 3 {
			high = 3 + c.Intn(4)
		}
		m.From.Path, m.To.Path = upHomes[low], upHomes[high]
		return m
	}
	kind := pick(c, "disk", "net")
	name := c.Intn(len(upNames) - 1)
	m.From = impl.Addr{Path: upHomes[low], Type: kind, Name: upNames[name]}
	m.To = impl.Addr{Path: upHomes[high], Type: kind, Name: upNames[name+1+c.Intn(len(upNames)-name-1)]}
	if m.Kind == impl.MvThing {
		m.From, m.To = c.key(m.From), c.key(m.To)
	}
	b := pick(c, l...)
	if c.Intn(2) == 0 && b.Addr.Type == kind {
		m.To = pick(c, append(impl.KeysOf(b), b.Addr)...)
		if m.Kind == impl.MvAll {
			m.To = b.Addr
		}
	}
	return m
}

// awayMove moves what a block tells of.
func (c chance) awayMove(b impl.Block) impl.Move {
	to := impl.Addr{Path: pick(c, upHomes...), Type: b.Addr.Type, Name: pick(c, upNames...)}
	from := pick(c, append(impl.KeysOf(b), b.Addr)...)
	return pick(c, impl.Move{Kind: impl.MvAll, From: b.Addr, To: to}, impl.Move{Kind: impl.MvThing, From: from, To: c.key(to)})
}

// movedConfig is a right one with moves, of which few are wild; mostly its blocks tell nothing that could be refused.
func (c chance) movedConfig() impl.Config {
	out := c.config()
	if c.Intn(3) > 0 {
		for i := range out.Blocks {
			out.Blocks[i].Props = one(c.Intn(3))
		}
	}
	for range pick(c, 0, 1, 2, 3, 4, 6, 12) {
		switch c.Intn(2 * c.wild) {
		case 0:
			out.Moves = append(out.Moves, c.wildMove())
		case 1:
			out.Moves = append(out.Moves, c.awayMove(pick(c, out.Blocks...)))
		default:
			out.Moves = append(out.Moves, c.upMove(out.Blocks))
		}
	}
	return out
}

// addrOf is one that is meant by an end of a move, or just any one.
func (c chance) addrOf(l []impl.Move) impl.Addr {
	a := impl.Addr{Path: pick(c, upHomes...), Type: pick(c, "disk", "net"), Name: pick(c, upNames...)}
	if len(l) == 0 || c.Intn(4) == 0 {
		return c.key(a)
	}
	m := pick(c, l...)
	end := pick(c, m.From, m.From, m.From, m.To)
	switch m.Kind {
	case impl.MvHome:
		a.Path = end.Path
		if len(a.Path) == 1 && c.Intn(2) == 0 {
			a.Path = []string{a.Path[0], pick(c, "s", "t")}
		}
	case impl.MvAll:
		a = end
	default:
		return end
	}
	return c.key(a)
}

// movedBook is a right book of things some of which are moved.
func (c chance) movedBook(conf impl.Config) []impl.Thing {
	l := impl.Expand(conf).Things
	if c.Intn(2) == 0 {
		l = l[:c.Intn(len(l)+1)]
	}
	for range pick(c, 0, 1, 4, 10, 25, 40) {
		x := impl.Thing{Addr: c.addrOf(conf.Moves)}
		x.Pairs = pairs(pair("p", c.value()), pair("q", c.value()))[:c.Intn(3)]
		var needs []impl.Addr
		for range c.Intn(4) {
			needs = append(needs, c.addrOf(conf.Moves))
		}
		x.Needs = without(risen(needs), impl.AddrText(x.Addr))
		if out := impl.BookPut(l, x); out.Code == impl.OK {
			l = out.Book
		}
	}
	return l
}

// risen are the same addresses, rising, each once.
func risen(l []impl.Addr) []impl.Addr {
	slices.SortFunc(l, whichFirst)
	return slices.CompactFunc(l, impl.SameAddr)
}
