package tests

import (
	"slices"

	"loop.example/g00770/impl"
)

// What is to be done, told in another way than the program does: things are their texts, and each round counts anew who
// needs whom.

// dropsTold tells the places of things in the order in which they are dropped.
func dropsTold(l []impl.Thing) []int {
	var order []int
	for len(order) < len(l) {
		needed := map[string]int{}
		for i, x := range l {
			for _, need := range x.Needs {
				if !slices.Contains(order, i) {
					needed[impl.AddrText(need)]++
				}
			}
		}
		least, free := -1, -1
		for i := len(l) - 1; i >= 0; i-- {
			if slices.Contains(order, i) {
				continue
			}
			least = i
			if needed[impl.AddrText(l[i].Addr)] == 0 {
				free = i
			}
		}
		if free < 0 {
			free = least
		}
		order = append(order, free)
	}
	return order
}

func pairsTold(x impl.Thing) string {
	return thingLines([]impl.Thing{{Addr: x.Addr, Pairs: x.Pairs}})
}

// planTold is what PlanOf tells of a right config and a right book.
func planTold(c impl.Config, l []impl.Thing) impl.PlanOut {
	went := rewriteTold(c, l)
	if went.Code != impl.OK {
		return impl.PlanOut{Code: went.Code}
	}
	out := impl.PlanOut{Moved: went.Moved, Blocked: went.Blocked}
	made := expandTold(c)
	was, is := map[string]string{}, map[string]string{}
	for _, x := range made.Things {
		is[impl.AddrText(x.Addr)] = pairsTold(x)
	}
	var gone []impl.Thing
	for _, x := range went.Book {
		text := impl.AddrText(x.Addr)
		was[text] = pairsTold(x)
		if is[text] == "" {
			gone = append(gone, x)
		}
	}
	for _, i := range dropsTold(gone) {
		out.Steps = append(out.Steps, impl.Step{Kind: 4, Addr: gone[i].Addr})
	}
	for _, a := range made.Order {
		kind := int64(3)
		switch was[impl.AddrText(a)] {
		case "":
			kind = 2
		case is[impl.AddrText(a)]:
			kind = 1
		}
		out.Steps = append(out.Steps, impl.Step{Kind: kind, Addr: a})
	}
	return out
}

// targetTold is what Target tells of a right config, a right book, and right addresses. Each one that is wanted is gone
// after to all that it needs.
func targetTold(c impl.Config, l []impl.Thing, want []impl.Addr) impl.PlanOut {
	plan := planTold(c, l)
	if plan.Code != impl.OK {
		return plan
	}
	byText := map[string]impl.Thing{}
	for _, x := range expandTold(c).Things {
		byText[impl.AddrText(x.Addr)] = x
	}
	reached := map[string]bool{}
	var reach func(a impl.Addr)
	reach = func(a impl.Addr) {
		text := impl.AddrText(a)
		if reached[text] {
			return
		}
		reached[text] = true
		for _, need := range byText[text].Needs {
			reach(need)
		}
	}
	for _, a := range want {
		if _, there := byText[impl.AddrText(a)]; !there {
			return impl.PlanOut{Code: impl.ErrNone}
		}
		reach(a)
	}
	var steps []impl.Step
	for _, s := range plan.Steps {
		if s.Kind < 4 && reached[impl.AddrText(s.Addr)] {
			steps = append(steps, s)
		}
	}
	plan.Steps = steps
	return plan
}

// turnedBook is a right book, of which some have other Pairs than they are to have, or need each other by chance.
func (c chance) turnedBook(conf impl.Config) []impl.Thing {
	l := c.movedBook(conf)
	var addrs []impl.Addr
	for _, x := range l {
		addrs = append(addrs, x.Addr, impl.EndOf(conf, x.Addr).Addr)
	}
	addrs = slices.DeleteFunc(addrs, func(a impl.Addr) bool { return !impl.AddrRight(a) })
	many := pick(c, 1, 2, 4, 8)
	for i := range l {
		if c.Intn(3) == 0 {
			l[i].Pairs = pairs(pair("p", c.value()), pair("q", c.value()))[:c.Intn(3)]
		}
		if c.Intn(2) == 0 {
			continue
		}
		needs := l[i].Needs
		for range c.Intn(many) {
			needs = append(needs, pick(c, addrs...))
		}
		l[i].Needs = without(risen(needs), impl.AddrText(l[i].Addr))
	}
	return l
}

// needyConfig is a right one that tells no code: of things each of which needs up to six of those of a lower rank.
func (c chance) needyConfig() impl.Config {
	many := 2 + c.Intn(11)
	ranks := c.Perm(many)
	var l []impl.Block
	for i, name := range abc(many) {
		b := block(impl.Addr{Type: "d", Name: name})
		for _, word := range []string{"p", "q", "r"} {
			e := tells(num(0))
			for range c.Intn(3) {
				other := c.Intn(many)
				if ranks[other] < ranks[i] {
					e = sum(e, ref(impl.Addr{Type: "d", Name: abc(many)[other]}, "p"))
				}
			}
			b.Props = append(b.Props, prop(word, e))
		}
		l = append(l, b)
	}
	return blocks(l...)
}
