package tests

import (
	"fmt"
	"math/rand"
	"slices"
	"strings"

	"loop.example/g00770/impl"
)

// foretold is what a config comes to, told in another way than the program does: an address is its text, each round of
// an order looks at all that is left, and a value is gone after from what asks for it to what it is told by.
type foretold struct {
	texts []string
	props map[string][]impl.Prop
	addrs map[string]impl.Addr
}

// orderTold goes by the words of the document alone, and tells fewer than all if there is none that may be next.
func orderTold(l []impl.Thing) []impl.Addr {
	among, there := map[string]bool{}, map[string]bool{}
	for _, x := range l {
		among[impl.AddrText(x.Addr)] = true
	}
	var order []impl.Addr
rounds:
	for {
		for _, x := range l {
			ready := !there[impl.AddrText(x.Addr)]
			for _, need := range x.Needs {
				ready = ready && (there[impl.AddrText(need)] || !among[impl.AddrText(need)])
			}
			if ready {
				there[impl.AddrText(x.Addr)] = true
				order = append(order, x.Addr)
				continue rounds
			}
		}
		return order
	}
}

func instancesTold(c impl.Config) foretold {
	f := foretold{props: map[string][]impl.Prop{}, addrs: map[string]impl.Addr{}}
	add := func(b impl.Block, key string) {
		text := impl.AddrText(b.Addr) + key
		f.texts = append(f.texts, text)
		f.props[text] = b.Props
		f.addrs[text] = impl.AddrRead(text).Addr
	}
	for _, b := range c.Blocks {
		for n := range b.Count {
			add(b, fmt.Sprintf("[%d]", n))
		}
		for _, word := range b.Each {
			add(b, "["+word+"]")
		}
		if b.Count < 0 && len(b.Each) == 0 {
			add(b, "")
		}
	}
	slices.SortFunc(f.texts, func(x string, y string) int {
		if impl.AddrLess(f.addrs[x], f.addrs[y]) {
			return -1
		}
		return 1
	})
	return f
}

// propTold is the expression of a Prop of an instance, if there is one.
func (f foretold) propTold(text string, name string) (impl.Expr, bool) {
	for _, p := range f.props[text] {
		if p.Name == name {
			return p.Expr, true
		}
	}
	return impl.Expr{}, false
}

// refsTold are the ExRefs of an expression as they are told, one after the other: `disk.a:size`.
func refsTold(e impl.Expr) []string {
	var out []string
	for _, part := range strings.Split(impl.ExprText(e), "@")[1:] {
		end := strings.IndexAny(part+" ", " )")
		out = append(out, part[:end])
	}
	return out
}

func (f foretold) valueTold(e impl.Expr, text string) (impl.Value, int64) {
	switch e.Kind {
	case impl.ExRef:
		of, _ := f.propTold(impl.AddrText(e.Addr), e.Prop)
		return f.valueTold(of, impl.AddrText(e.Addr))
	case impl.ExIndex:
		return num(f.addrs[text].N), impl.OK
	case impl.ExKey:
		return letters(f.addrs[text].Key), impl.OK
	case impl.ExSum:
		a, first := f.valueTold(e.Args[0], text)
		b, second := f.valueTold(e.Args[1], text)
		switch {
		case first != impl.OK:
			return a, first
		case second != impl.OK:
			return b, second
		case a.Kind != impl.VlNum || b.Kind != impl.VlNum:
			return a, impl.ErrKind
		case a.N+b.N > 1000000 || a.N+b.N < -1000000:
			return a, impl.ErrRange
		}
		return num(a.N + b.N), impl.OK
	}
	return e.Value, impl.OK
}

// thingsTold tells the things without their Pairs, and the code of what they refer to.
func (f foretold) thingsTold() ([]impl.Thing, int64) {
	var l []impl.Thing
	none, own := false, false
	for _, text := range f.texts {
		needs := map[string]bool{}
		for _, p := range f.props[text] {
			for _, told := range refsTold(p.Expr) {
				addr, name, _ := strings.Cut(told, ":")
				_, there := f.propTold(addr, name)
				none = none || !there
				own = own || addr == text
				needs[addr] = true
			}
		}
		x := impl.Thing{Addr: f.addrs[text]}
		for _, other := range f.texts { // rising, as these are; of one that is not among them there is a code
			if needs[other] && other != text {
				x.Needs = append(x.Needs, f.addrs[other])
			}
		}
		l = append(l, x)
	}
	switch {
	case none:
		return nil, impl.ErrNone
	case own:
		return nil, impl.ErrState
	}
	return l, impl.OK
}

// expandTold is what Expand tells of a right config.
func expandTold(c impl.Config) impl.ExpandOut {
	f := instancesTold(c)
	if len(f.texts) > 40 {
		return impl.ExpandOut{Code: impl.ErrFull}
	}
	l, code := f.thingsTold()
	if code != impl.OK {
		return impl.ExpandOut{Code: code}
	}
	order := orderTold(l)
	if len(order) < len(l) {
		return impl.ExpandOut{Code: impl.ErrState}
	}
	pairs := map[string][]impl.Pair{}
	for _, a := range order {
		text := impl.AddrText(a)
		for _, p := range f.props[text] {
			v, code := f.valueTold(p.Expr, text)
			if code != impl.OK {
				return impl.ExpandOut{Code: code}
			}
			pairs[text] = append(pairs[text], impl.Pair{Name: p.Name, Value: v})
		}
	}
	for i := range l {
		l[i].Pairs = pairs[impl.AddrText(l[i].Addr)]
	}
	return impl.ExpandOut{Things: l, Order: order}
}

// chance makes configs: all by the number that it began with, so that they are the same each time.
type chance struct {
	*rand.Rand
	addrs  []impl.Addr
	blocks []impl.Block
	wild   int
}

func pick[T any](c chance, l ...T) T {
	return l[c.Intn(len(l))]
}

func (c chance) value() impl.Value {
	return pick(c, num(0), num(1), num(-3), num(7), num(2), num(400000), num(-600000), num(1000000), letters("a"))
}

// target is mostly an instance of a block that is made ahead, and now and then just any address.
func (c chance) target(at int, ranks []int) impl.Expr {
	name := pick(c, "p", "q", "r")
	for range 8 {
		i := c.Intn(len(c.blocks))
		keys := impl.KeysOf(c.blocks[i])
		if len(keys) > 0 && len(c.blocks[i].Props) > 0 && (ranks[i] < ranks[at] || c.Intn(c.wild) == 0) {
			if c.Intn(c.wild) > 0 {
				name = pick(c, c.blocks[i].Props...).Name
			}
			return ref(pick(c, keys...), name)
		}
	}
	if c.Intn(c.wild) > 0 {
		return tells(c.value())
	}
	a := pick(c, c.addrs...)
	a.Kind = int64(c.Intn(2))
	return ref(a, name)
}

func (c chance) expr(at int, ranks []int, depth int) impl.Expr {
	b := c.blocks[at]
	switch c.Intn(6) {
	case 0, 1:
		if depth > 1 {
			return sum(c.expr(at, ranks, depth-1), c.expr(at, ranks, depth-1))
		}
	case 2, 3:
		return c.target(at, ranks)
	case 4:
		if b.Count >= 0 {
			return index
		}
		if len(b.Each) > 0 {
			return key
		}
	}
	return tells(c.value())
}

// config is a right one, of few blocks mostly: what is made ahead has nothing to do with the order of addresses.
func (c chance) config() impl.Config {
	c.addrs, c.blocks = nil, nil
	for _, path := range [][]string{nil, {"m"}, {"m", "n"}} {
		for _, kind := range []string{"disk", "net"} {
			for _, name := range []string{"a", "aa", "b"} {
				c.addrs = append(c.addrs, impl.Addr{Path: path, Type: kind, Name: name})
			}
		}
	}
	many := pick(c, 1, 2, 3, 4, 5, 6, 12)
	places := c.Perm(len(c.addrs))[:many]
	slices.Sort(places)
	for _, at := range places {
		b := block(c.addrs[at])
		switch c.Intn(4) {
		case 0:
			b.Count = pick[int64](c, 0, 1, 2, 3, 8)
			if many == 12 {
				b.Count = 8
			}
		case 1:
			b.Each = abc(1 + c.Intn(4))
		}
		for _, name := range []string{"p", "q", "r"} {
			if c.Intn(3) > 0 {
				b.Props = append(b.Props, prop(name, tells(num(0))))
			}
		}
		c.blocks = append(c.blocks, b)
	}
	ranks := c.Perm(many)
	for at := range c.blocks {
		for i := range c.blocks[at].Props {
			c.blocks[at].Props[i].Expr = c.expr(at, ranks, 4)
		}
	}
	return blocks(c.blocks...)
}
