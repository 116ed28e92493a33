package tests

import (
	"fmt"
	"math"
	"math/rand"
	"runtime"
	"slices"
	"strings"
	"sync"
	"testing"
	"time"

	"loop.example/g00770/impl"
)

// plainPlan makes none of each empty list, as both are the same.
func plainPlan(p impl.PlanOut) impl.PlanOut {
	out := impl.PlanOut{Moved: plainAddrs(p.Moved), Blocked: plainAddrs(p.Blocked), Code: p.Code}
	for _, s := range p.Steps {
		out.Steps = append(out.Steps, impl.Step{Kind: s.Kind, Addr: plainPath(s.Addr)})
	}
	return out
}

func wantPlan(t *testing.T, what string, got impl.PlanOut, want impl.PlanOut) {
	t.Helper()
	if told(plainPlan(got)) != told(plainPlan(want)) {
		t.Errorf("%.600s: got %d: %q, want %d: %q", what, got.Code, planLines(got), want.Code, planLines(want))
	}
}

// planLines writes a plan out, whatever stands in it.
func planLines(p impl.PlanOut) string {
	text := ""
	for _, s := range p.Steps {
		text += fmt.Sprint(s.Kind, " ", impl.AddrText(s.Addr), "\n")
	}
	return text + "moved " + orderLine(p.Moved) + ", blocked " + orderLine(p.Blocked)
}

// readSteps makes one of each item: its mark, and its address.
func readSteps(t *testing.T, line string) []impl.Step {
	t.Helper()
	var l []impl.Step
	words := strings.Fields(line)
	for i := 0; i+1 < len(words); i += 2 {
		l = append(l, impl.Step{Kind: int64(strings.Index("=+~-", words[i]) + 1), Addr: readAddr(t, words[i+1])})
	}
	return l
}

func TestPlanConstants(t *testing.T) {
	if got := []int64{impl.AcKeep, impl.AcMake, impl.AcTurn, impl.AcDrop}; !slices.Equal(got, []int64{1, 2, 3, 4}) {
		t.Errorf("the kinds of Steps are %v", got)
	}
}

// planRow is what PlanOf tells, by texts.
type planRow struct {
	config, book, steps, moved, blocked string
}

func planRows() []planRow {
	return []planRow{
		// No book and no config; no book; no config.
		{"", "", "", "", ""},
		{"thing d.a\n", "", "+ d.a", "", ""},
		{"thing d.a count 0\n", "", "", "", ""},
		{"thing d.a count 2\n  p = (# + 1)\nthing d.b each k,l\n  p = @d.a[1]:p\n", "", "+ d.a[0] + d.a[1] + d.b[k] + d.b[l]", "", ""},
		{"thing d.a\n  p = @d.c:p\nthing d.b\nthing d.c\n  p = 1\n", "", "+ d.b + d.c + d.a", "", ""},
		{"", "d.a\n", "- d.a", "", ""},
		{"", "d.a p=1 <z.z\n", "- d.a", "", ""},
		// Nothing that is to be dropped.
		{"thing d.a\nthing d.b\n", "d.a\nd.b\n", "= d.a = d.b", "", ""},
		{"thing d.a\nthing d.b\n", "d.b\n", "+ d.a = d.b", "", ""},
		{"thing d.a each k,l\n  p = $\n", "d.a[k] p=\"k\"\nd.a[l] p=\"l\"\n", "= d.a[k] = d.a[l]", "", ""},
		// The same Pairs, and other Needs.
		{"thing d.a\n  p = 1\n", "d.a p=1 <d.z\n", "= d.a", "", ""},
		{"thing d.a\n  p = @d.b:p\nthing d.b\n  p = 1\n", "d.a p=1\nd.b p=1\n", "= d.b = d.a", "", ""},
		{"thing d.a\n  p = @d.b:p\nthing d.b\n  p = 1\n", "d.a p=1 <d.c\nd.b p=1 <d.a\n", "= d.b = d.a", "", ""},
		{"thing d.a\nthing d.b\n", "d.a <d.b\nd.b <d.a\n", "= d.a = d.b", "", ""},
		// Other Pairs: another value, one of another kind, another name, one more, one less, none, and all others.
		{"thing d.a\n  p = 1\n", "d.a p=2\n", "~ d.a", "", ""},
		{"thing d.a\n  p = 1\n", "d.a p=\"a\"\n", "~ d.a", "", ""},
		{"thing d.a\n  p = \"a\"\n", "d.a p=\"b\"\n", "~ d.a", "", ""},
		{"thing d.a\n  p = 0\n", "d.a q=0\n", "~ d.a", "", ""},
		{"thing d.a\n  p = 1\n", "d.a p=1 q=2\n", "~ d.a", "", ""},
		{"thing d.a\n  p = 1\n  q = 2\n", "d.a p=1\n", "~ d.a", "", ""},
		{"thing d.a\n  p = 1\n  q = 2\n", "d.a q=2\n", "~ d.a", "", ""},
		{"thing d.a\n  p = 1\n  q = 2\n", "d.a p=2 q=1\n", "~ d.a", "", ""},
		{"thing d.a\n  p = 1\n  q = 2\n", "d.a p=1 q=3\n", "~ d.a", "", ""},
		{"thing d.a\n  p = 1\n", "d.a\n", "~ d.a", "", ""},
		{"thing d.a\n", "d.a p=1\n", "~ d.a", "", ""},
		{"thing d.a\n  p = @d.b:p\nthing d.b\n  p = 1\n", "d.a p=1 <d.b\nd.b p=2\n", "~ d.b = d.a", "", ""},
		// Of one name, but of another key or home.
		{"thing d.a count 1\n", "d.a\nd.a[1]\nm/d.a[0]\n", "- d.a - d.a[1] - m/d.a[0] + d.a[0]", "", ""},
		{"thing d.a\n", "d.a[0]\nd.a[a]\ne.a\n", "- d.a[0] - d.a[a] - e.a + d.a", "", ""},
		// A Step of each Kind, and several of each.
		{"thing d.a\n  p = 1\nthing d.b\n  p = 2\nthing d.c\n", "d.a p=1\nd.b p=1\nd.d\n", "- d.d = d.a ~ d.b + d.c", "", ""},
		{"thing d.a count 4\n  p = #\nthing e.a count 4\n  p = @d.a[0]:p\n", "a.a\nd.a[1] p=1\nd.a[2] p=3\ne.a[1] p=1\ne.a[3] p=0\nz.z\n",
			"- a.a - z.z + d.a[0] = d.a[1] ~ d.a[2] + d.a[3] + e.a[0] ~ e.a[1] + e.a[2] = e.a[3]", "", ""},
		{"thing d.a\n  p = @d.b:p\nthing d.b\n  p = @d.c:p\nthing d.c\n  p = @m/d.a:p\nthing m/d.a\n  p = 5\n", "d.b p=5\nd.d\nm/d.a p=4\n",
			"- d.d ~ m/d.a + d.c = d.b + d.a", "", ""},
		// Of what goes by moves, what they come to is asked.
		{"thing d.b\n  p = 1\nmovedall d.a d.b\n", "d.a p=1\n", "= d.b", "d.a", ""},
		{"thing d.b\n  p = 1\nmovedall d.a d.b\n", "d.a p=2\n", "~ d.b", "d.a", ""},
		{"thing d.b\n  p = 1\nmovedall d.a d.b\n", "d.a[0] p=1\n", "- d.b[0] + d.b", "d.a[0]", ""},
		{"thing d.b\n  p = 1\nmovedall d.a d.m\nmovedall d.m d.b\n", "d.a p=1 <d.z\n", "= d.b", "d.a", ""},
		{"thing n/d.a count 2\n  p = #\nmovedhome m n\n", "m/d.a[1] p=1\nm/d.a[2] p=2\nn/d.a[0] p=0\n", "- n/d.a[2] = n/d.a[0] = n/d.a[1]", "m/d.a[1] m/d.a[2]", ""},
		{"thing d.b each a,b\n  p = $\nmoved d.a[0] d.b[a]\nmoved d.a[1] d.b[b]\n", "d.a[0] p=\"a\"\nd.a[1] p=\"a\"\n", "= d.b[a] ~ d.b[b]", "d.a[0] d.a[1]", ""},
		{"movedall d.a d.b\n", "d.a\n", "- d.b", "d.a", ""},
		// What is blocked stays, and is to be dropped there; its end is one that c comes to, or not.
		{"thing d.b\nmovedall d.a d.b\n", "d.a\nd.b\n", "- d.a = d.b", "", "d.a"},
		{"thing d.b\n  p = 1\nmovedall d.a d.b\n", "d.a p=1\nd.b\n", "- d.a ~ d.b", "", "d.a"},
		{"movedall d.a d.b\n", "d.a\nd.b\n", "- d.a - d.b", "", "d.a"},
		{"thing d.c\nmovedall d.a d.c\nmovedall d.b d.c\n", "d.a\nd.b\n", "- d.b = d.c", "d.a", "d.b"},
		{"thing d.c\n  p = 7\nmovedall d.a d.c\nmovedall d.b d.c\n", "d.a\nd.b p=7\n", "- d.b ~ d.c", "d.a", "d.b"},
		{"thing n/d.a\nthing n/d.b\nthing n/d.c\nmovedhome m n\n", "m/d.a\nm/d.b\nn/d.b p=1\nx/d.a\n", "- m/d.b - x/d.a = n/d.a ~ n/d.b + n/d.c", "m/d.a", "m/d.b"},
		{"thing d.z\n  p = 1\nmovedall d.a d.b\nmovedall d.b d.c\nmovedall e.a e.b\n", "d.a\nd.b\nd.c\ne.a\nz.z <e.a\n", "- d.a - d.b - d.c - e.b - z.z + d.z", "e.a", "d.a d.b"},
		// Needs are asked as they are then: they do not go along, and may come to be those of what went there.
		{"movedall d.b d.a\n", "d.b\nd.c <d.b\n", "- d.a - d.c", "d.b", ""},
		{"movedall d.c d.a\n", "d.b <d.a\nd.c\n", "- d.b - d.a", "d.c", ""},
		{"movedall d.a d.b\n", "d.a <d.b\nd.c\n", "- d.b - d.c", "d.a", ""},
		{"movedall d.a d.b\n", "d.a\nd.b\nd.c <d.a\n", "- d.b - d.c - d.a", "", "d.a"},
	}
}

// dropRows are books of which all is to be dropped, but for d.z, which needs nothing by itself; and in which order.
func dropRows() [][2]string {
	return [][2]string{
		// That need nothing: the least one first.
		{"d.a\nd.b\nd.c\n", "a b c"},
		// In a row, to each side.
		{"d.a\nd.b <d.a\nd.c <d.b\n", "c b a"},
		{"d.a <d.b\nd.b <d.c\nd.c\n", "a b c"},
		{"d.a <d.c\nd.b\nd.c <d.b\n", "a c b"},
		{"d.a\nd.b <d.a\nd.c <d.b\nd.d <d.c\nd.e <d.d\n", "e d c b a"},
		// The least of several that may be told, as soon as it may be.
		{"d.a\nd.b\nd.c <d.a\n", "b c a"},
		{"d.a\nd.b <d.a\nd.c\n", "b a c"},
		{"d.a\nd.b\nd.c <d.b\nd.d\n", "a c b d"},
		{"d.a\nd.b <d.a\nd.c <d.a\n", "b c a"},
		{"d.a\nd.b\nd.c <d.a <d.b\n", "c a b"},
		{"d.a\nd.b <d.a\nd.c <d.a\nd.d <d.b <d.c\n", "d b c a"},
		{"d.a <d.d\nd.b <d.d\nd.c <d.a\nd.d\n", "b c a d"},
		// In a ring: the least one first, and then what nothing needs any more.
		{"d.a <d.b\nd.b <d.a\n", "a b"},
		{"d.a <d.b\nd.b <d.c\nd.c <d.a\n", "a b c"},
		{"d.a <d.c\nd.b <d.a\nd.c <d.b\n", "a c b"},
		{"d.a <d.b <d.c\nd.b <d.a <d.c\nd.c <d.a <d.b\n", "a b c"},
		{"d.a <d.d\nd.b <d.a\nd.c <d.b\nd.d <d.c\n", "a d c b"},
		// In two rings, and in two that stand in each other.
		{"d.a <d.b\nd.b <d.a\nd.c <d.d\nd.d <d.c\n", "a b c d"},
		{"d.a <d.d\nd.b <d.c\nd.c <d.b\nd.d <d.a\n", "a d b c"},
		{"d.a <d.b\nd.b <d.a <d.c\nd.c <d.b\n", "a b c"},
		{"d.a <d.c\nd.b <d.c\nd.c <d.a <d.b\n", "a b c"},
		// Beside a ring, ahead of it, and behind it. What a ring needs is told first if it is the least one of all.
		{"d.a <d.b\nd.b <d.a\nd.c\n", "c a b"},
		{"d.a <d.b\nd.b <d.a\nd.c <d.a\n", "c a b"},
		{"d.a <d.b\nd.b <d.a\nd.c <d.d\nd.d\n", "c d a b"},
		{"d.a\nd.b <d.a <d.c\nd.c <d.b\n", "a b c"},
		{"d.a <d.b <d.c\nd.b <d.a\nd.c\n", "a b c"},
		{"d.b <d.c\nd.c <d.b <d.y\nd.y\n", "b c y"},
		{"d.a\nd.b <d.a\nd.c <d.b <d.d\nd.d <d.c\n", "a b c d"},
		{"d.a\nd.b\nd.c <d.b <d.d\nd.d <d.c\n", "a b c d"},
		// Those that need what stays, or what is not there.
		{"d.a <d.z\nd.b\nd.z\n", "a b"},
		{"d.a\nd.b <d.z\nd.c <d.b <x.x\nd.z\n", "a c b"},
		// Those that a thing needs which stays: that is not one of these.
		{"d.a\nd.b\nd.z <d.a\n", "a b"},
		{"d.a\nd.b <d.a\nd.z <d.a <d.b\n", "b a"},
		{"d.a <d.z\nd.b\nd.z <d.a\n", "a b"},
		{"d.a <d.z\nd.b <d.a\nd.z <d.b\n", "b a"},
		{"d.a\nd.z <d.a\n", "a"},
	}
}

// partsOf tells the Steps of what is to be dropped, and the others.
func partsOf(l []impl.Step) (drops []impl.Step, others []impl.Step) {
	for _, s := range l {
		if s.Kind == impl.AcDrop {
			drops = append(drops, s)
		} else {
			others = append(others, s)
		}
	}
	return drops, others
}

func addrsOf(l []impl.Step) []impl.Addr {
	var out []impl.Addr
	for _, s := range l {
		out = append(out, s.Addr)
	}
	return out
}

func addrsOfThings(l []impl.Thing) []impl.Addr {
	var out []impl.Addr
	for _, x := range l {
		out = append(out, x.Addr)
	}
	return out
}

// checkDrops checks that each of these is the least one that none behind it needs, or that all behind it are needed.
func checkDrops(t *testing.T, what string, drops []impl.Step, book []impl.Thing) {
	t.Helper()
	needed := map[string]int{}
	count := func(s impl.Step, by int) {
		for _, need := range impl.BookAt(book, s.Addr).Needs {
			needed[impl.AddrText(need)] += by
		}
	}
	for _, s := range drops {
		count(s, 1)
	}
	free := func(s impl.Step) bool { return needed[impl.AddrText(s.Addr)] == 0 }
	for i, s := range drops {
		for _, other := range drops[i+1:] {
			less := impl.AddrLess(other.Addr, s.Addr)
			if less && free(other) || !free(s) && (less || free(other)) {
				t.Errorf("%s: %s is dropped ahead of %s", what, impl.AddrText(s.Addr), impl.AddrText(other.Addr))
			}
		}
		count(s, -1)
	}
}

// among asks whether an address is among these.
func among(l []impl.Addr, a impl.Addr) bool {
	return slices.ContainsFunc(l, func(x impl.Addr) bool { return impl.SameAddr(x, a) })
}

// checkBehind checks that each of these stands once, and behind all that it needs of them.
func checkBehind(t *testing.T, what string, steps []impl.Step, all []impl.Thing) {
	t.Helper()
	for i, s := range steps {
		ahead := addrsOf(steps[:i])
		if among(ahead, s.Addr) {
			t.Errorf("%s: %s is told twice", what, impl.AddrText(s.Addr))
		}
		for _, need := range impl.BookAt(all, s.Addr).Needs {
			if !among(ahead, need) {
				t.Errorf("%s: %s is not behind %s", what, impl.AddrText(s.Addr), impl.AddrText(need))
			}
		}
	}
}

// checkPlan checks all that promise 9 says of a right config, the MovesCode of which is OK, and a right book; and that it
// is told of each Step what it is.
func checkPlan(t *testing.T, c impl.Config, l []impl.Thing) impl.PlanOut {
	t.Helper()
	p, went, made := impl.PlanOf(c, l), impl.Rewrite(c, l), impl.Expand(c)
	what := impl.ConfigText(c) + thingLines(l)
	if p.Code != impl.OK || orderLine(p.Moved) != orderLine(went.Moved) || orderLine(p.Blocked) != orderLine(went.Blocked) {
		t.Errorf("%s: code %d, moved %q, blocked %q", what, p.Code, orderLine(p.Moved), orderLine(p.Blocked))
	}
	drops, others := partsOf(p.Steps)
	if !slices.EqualFunc(p.Steps, slices.Concat(drops, others), sameStep) {
		t.Errorf("%s: not all that is dropped is dropped first: %q", what, planLines(p))
	}
	var gone []impl.Addr
	for _, x := range went.Book {
		if !among(addrsOfThings(made.Things), x.Addr) {
			gone = append(gone, x.Addr)
		}
	}
	if orderLine(risen(addrsOf(drops))) != orderLine(gone) || len(drops) != len(gone) {
		t.Errorf("%s: dropped is %q, but not just %q", what, orderLine(addrsOf(drops)), orderLine(gone))
	}
	checkDrops(t, what, drops, went.Book)
	if orderLine(addrsOf(others)) != orderLine(made.Order) {
		t.Errorf("%s: got %q, want the order %q", what, orderLine(addrsOf(others)), orderLine(made.Order))
	}
	checkBehind(t, what, others, made.Things)
	many := make([]int64, 4)
	for _, s := range p.Steps {
		many[s.Kind-1]++
		was, is := impl.BookAt(went.Book, s.Addr), impl.BookAt(made.Things, s.Addr)
		there := impl.AddrRight(was.Addr)
		same := there && slices.Equal(was.Pairs, is.Pairs)
		if s.Kind != impl.AcDrop && (there != (s.Kind != impl.AcMake) || same != (s.Kind == impl.AcKeep)) {
			t.Errorf("%s: a Step of Kind %d, but there was %+v, and is to be %+v", what, s.Kind, was, is)
		}
	}
	checkTold(t, p, many)
	return p
}

func sameStep(a impl.Step, b impl.Step) bool {
	return a.Kind == b.Kind && impl.SameAddr(a.Addr, b.Addr)
}

// checkTold checks what is told of a plan that has so many Steps of each Kind.
func checkTold(t *testing.T, p impl.PlanOut, many []int64) {
	t.Helper()
	text := ""
	for _, s := range p.Steps {
		text += []string{"= ", "+ ", "~ ", "- "}[s.Kind-1] + impl.AddrText(s.Addr) + "\n"
	}
	for _, a := range p.Blocked {
		text += "! " + impl.AddrText(a) + "\n"
	}
	calm := many[1]+many[2]+many[3] == 0 && len(p.Blocked) == 0
	if impl.PlanText(p) != text || !slices.Equal(impl.CountOf(p), many) || impl.Calm(p) != calm {
		t.Errorf("of %q: text %q, counts %v, calm %v", planLines(p), impl.PlanText(p), impl.CountOf(p), impl.Calm(p))
	}
}

func TestPlanOf(t *testing.T) {
	for _, r := range planRows() {
		c, l := readConfig(t, r.config), readBook(t, r.book)
		want := impl.PlanOut{Steps: readSteps(t, r.steps), Moved: readAddrs(t, r.moved), Blocked: readAddrs(t, r.blocked)}
		wantPlan(t, r.config+r.book, impl.PlanOf(c, l), want)
		wantPlan(t, "as foretold: "+r.config+r.book, planTold(c, l), want)
		checkPlan(t, c, l)
	}
	for _, r := range rewriteRows() {
		c, l := readConfig(t, r.config), readBook(t, r.book)
		wantPlan(t, r.config+r.book, checkPlan(t, c, l), planTold(c, l))
	}
}

func TestPlanOfWhatIsDropped(t *testing.T) {
	c := readConfig(t, "thing d.z\n")
	for _, r := range dropRows() {
		l := readBook(t, r[0])
		steps, kind := "", "+"
		for _, name := range strings.Fields(r[1]) {
			steps += "- d." + name + " "
		}
		if among(addrsOfThings(l), readAddr(t, "d.z")) {
			kind = "="
		}
		want := impl.PlanOut{Steps: readSteps(t, steps+kind+" d.z")}
		wantPlan(t, r[0], impl.PlanOf(c, l), want)
		wantPlan(t, "as foretold: "+r[0], planTold(c, l), want)
		checkPlan(t, c, l)
	}
}

// All ways in which four things may need each other, where all of them are dropped, and where the second one stays.
func TestPlanOfFour(t *testing.T) {
	names := []string{"a.a", "a.a[0]", "b.a", "m/a.a"}
	none, second := impl.Config{}, readConfig(t, "thing a.a count 1\n")
	for bits := range 1 << 12 {
		var l []impl.Thing
		at := 0
		for i, name := range names {
			var needs []string
			for j, other := range names {
				if i == j {
					continue
				}
				if bits>>at&1 == 1 {
					needs = append(needs, other)
				}
				at++
			}
			l = append(l, thing(t, name, needs...))
		}
		for _, c := range []impl.Config{none, second} {
			wantPlan(t, thingLines(l), checkPlan(t, c, l), planTold(c, l))
		}
	}
}

// Configs and books of all kinds come to what the document says, told in another way than the program does.
func TestPlanOfChance(t *testing.T) {
	codes, kinds := map[int64]int{}, map[int64]int{}
	moved, blocked, calm, more, fewer := 0, 0, 0, 0, 0
	for seed := range int64(1500) {
		by := chance{Rand: rand.New(rand.NewSource(seed)), wild: 3 + int(seed%80)}
		c := by.movedConfig()
		if seed%3 == 0 {
			c.Blocks = by.config().Blocks
		}
		l := by.turnedBook(c)
		p := impl.PlanOf(c, l)
		codes[p.Code]++
		wantPlan(t, impl.ConfigText(c)+thingLines(l), p, planTold(c, l))
		if p.Code == impl.OK {
			checkPlan(t, c, l)
		}
		if impl.Calm(p) && len(p.Steps) > 0 {
			calm++
		}
		for _, s := range p.Steps {
			kinds[s.Kind]++
		}
		moved += len(p.Moved)
		blocked += len(p.Blocked)
		_, others := partsOf(p.Steps)
		for range 2 {
			want := by.wants(c, l)
			got := impl.Target(c, l, want)
			wantPlan(t, impl.ConfigText(c)+thingLines(l)+orderLine(want), got, targetTold(c, l, want))
			if many := len(got.Steps); many > 0 && many < len(others) {
				fewer++
				more += min(1, many-len(risen(want)))
			}
		}
	}
	for _, code := range []int64{impl.OK, impl.ErrThere, impl.ErrState, impl.ErrMove, impl.ErrNone, impl.ErrKind, impl.ErrRange, impl.ErrFull} {
		if codes[code] < 30 {
			t.Errorf("the codes are %v", codes)
		}
	}
	if len(kinds) != 4 || kinds[1] < 1000 || kinds[2] < 500 || kinds[3] < 500 || kinds[4] < 3000 {
		t.Errorf("the kinds are %v", kinds)
	}
	if moved < 1500 || blocked < 400 || calm < 10 || fewer < 200 || more < 20 {
		t.Errorf("%d moved, %d blocked, %d calm, %d targets are fewer, %d of them more than is wanted", moved, blocked, calm, fewer, more)
	}
}

// wants are some of what a config comes to, in any order, and seldom one that it does not come to.
func (c chance) wants(conf impl.Config, l []impl.Thing) []impl.Addr {
	all := impl.Expand(conf).Order
	var out []impl.Addr
	for range pick(c, 0, 1, 1, 2, 3, 8) {
		if len(all) > 0 {
			out = append(out, pick(c, all...))
		}
		if c.Intn(20) == 0 {
			out = append(out, c.addrOf(conf.Moves))
		}
		if c.Intn(40) == 0 && len(l) > 0 {
			out = append(out, pick(c, l...).Addr)
		}
	}
	return out
}

// Of things that need many others, in all ways but in a ring, some are wanted; of a book of some of them.
func TestTargetOfChance(t *testing.T) {
	fewer, more := 0, 0
	for seed := range int64(300) {
		by := chance{Rand: rand.New(rand.NewSource(seed)), wild: 1000}
		c := by.needyConfig()
		l := by.turnedBook(c)
		p := checkPlan(t, c, l)
		wantPlan(t, impl.ConfigText(c)+thingLines(l), p, planTold(c, l))
		for range 4 {
			want := by.wants(c, nil)
			got := impl.Target(c, l, want)
			wantPlan(t, impl.ConfigText(c)+thingLines(l)+orderLine(want), got, targetTold(c, l, want))
			if len(got.Steps) < len(c.Blocks) {
				fewer++
				more += max(0, len(got.Steps)-len(risen(want)))
			}
		}
	}
	if fewer < 500 || more < 1000 {
		t.Errorf("%d targets are fewer, by %d more than is wanted", fewer, more)
	}
}

// The code is that of Rewrite, and nothing stands beside it: of whatever is wrong, and of several things at once.
func TestPlanFaultsInOrder(t *testing.T) {
	for code, sets := range faultSets() {
		for _, set := range sets {
			c := faultyConfig(t, set...)
			for _, l := range bookFields() {
				want := impl.PlanOut{Code: code}
				switch {
				case code == impl.ErrSize || len(l.of) > 400:
					want.Code = impl.ErrSize
				case !l.right:
					want.Code = impl.ErrForm
				case code == impl.OK:
					want = planTold(c, l.of)
				}
				wantPlan(t, l.what+" beside "+fmt.Sprint(set), impl.PlanOf(c, l.of), want)
				if got := impl.Rewrite(c, l.of).Code; got != want.Code {
					t.Errorf("%s beside %v: the code of Rewrite is %d", l.what, set, got)
				}
			}
		}
	}
	for code, texts := range codeRows() {
		for _, text := range texts {
			c := readConfig(t, text)
			if code == impl.OK {
				checkPlan(t, c, nil)
				continue
			}
			for _, l := range [][]impl.Thing{nil, things(t, "d.a", "d.b d.a")} {
				wantPlan(t, text, impl.PlanOf(c, l), impl.PlanOut{Code: code})
				wantPlan(t, text, impl.Target(c, l, nil), impl.PlanOut{Code: code})
				wantPlan(t, text, impl.Target(c, l, readAddrs(t, "d.a z.z")), impl.PlanOut{Code: code})
			}
		}
	}
}

// wantsRow is a list of addresses, and what Target tells of it where nothing else is wrong.
type wantsRow struct {
	what string
	of   []impl.Addr
	code int64
}

// fewWants are asked of what a faultyConfig comes to.
func fewWants(t *testing.T) []wantsRow {
	t.Helper()
	a, none := readAddr(t, "a.c"), readAddr(t, "q.q")
	l := []wantsRow{
		{"none", nil, impl.OK}, {"no addresses", []impl.Addr{}, impl.OK}, {"one", []impl.Addr{a}, impl.OK}, {"one twice", []impl.Addr{a, a}, impl.OK},
		{"one 40 times", slices.Repeat([]impl.Addr{a}, 40), impl.OK}, {"one of a Path without words", []impl.Addr{{Path: []string{}, Type: "a", Name: "c"}}, impl.OK},
		{"one that is not there", []impl.Addr{none}, impl.ErrNone}, {"one ahead that is not there", []impl.Addr{none, a}, impl.ErrNone},
		{"one behind that is not there", []impl.Addr{a, a, none}, impl.ErrNone}, {"40 that are not there", manyAddrs(40), impl.ErrNone},
		{"one of a key", readAddrs(t, "a.c[0]"), impl.ErrNone}, {"one of a home", readAddrs(t, "m/a.c"), impl.ErrNone},
		{"41", slices.Repeat([]impl.Addr{a}, 41), impl.ErrForm}, {"41 that are not there", manyAddrs(41), impl.ErrForm}, {"400", slices.Repeat([]impl.Addr{a}, 400), impl.ErrForm},
		{"401", slices.Repeat([]impl.Addr{a}, 401), impl.ErrSize}, {"402", manyAddrs(402), impl.ErrSize}, {"401 zero ones", make([]impl.Addr, 401), impl.ErrSize},
		{"400 zero ones", make([]impl.Addr, 400), impl.ErrForm}, {"a wrong one behind", []impl.Addr{a, none, {Type: "a"}}, impl.ErrForm},
		{"a wrong one ahead", []impl.Addr{{}, a}, impl.ErrForm}, {"a wrong one at the end of 40", append(slices.Repeat([]impl.Addr{a}, 39), home("m")), impl.ErrForm},
	}
	for _, wrong := range wrongAddrs {
		l = append(l, wantsRow{told(wrong), []impl.Addr{wrong}, impl.ErrForm})
	}
	return l
}

// What is wanted is looked at ahead of the config and the book, but whether it is there behind them; the sizes first.
func TestTargetFaultsInOrder(t *testing.T) {
	codes := map[int64]int{}
	for code, sets := range faultSets() {
		for i, set := range sets {
			if len(set) > 2 && i%16 > 0 {
				continue
			}
			c := faultyConfig(t, set...)
			for _, l := range bookFields() {
				for _, w := range fewWants(t) {
					want := impl.PlanOut{Code: code}
					switch {
					case code == impl.ErrSize || len(l.of) > 400 || w.code == impl.ErrSize:
						want.Code = impl.ErrSize
					case w.code == impl.ErrForm || !l.right:
						want.Code = impl.ErrForm
					case code == impl.OK && w.code == impl.OK:
						want = targetTold(c, l.of, w.of)
					case code == impl.OK:
						want.Code = w.code
					}
					codes[want.Code]++
					wantPlan(t, w.what+" of "+l.what+" beside "+fmt.Sprint(set), impl.Target(c, l.of, w.of), want)
				}
			}
		}
	}
	if len(codes) != 10 {
		t.Errorf("the codes are %v", codes)
	}
}

// A config that is not right, whatever of it is not.
func TestPlansOfWhatIsNotRight(t *testing.T) {
	check := func(what string, c impl.Config, code int64) {
		t.Helper()
		for _, l := range [][]impl.Thing{nil, rowOf(3), rowOf(41)} {
			wantPlan(t, what, impl.PlanOf(c, l), impl.PlanOut{Code: code})
			wantPlan(t, what, impl.Target(c, l, nil), impl.PlanOut{Code: code})
			wantPlan(t, what, impl.Target(c, l, []impl.Addr{diskA}), impl.PlanOut{Code: code})
		}
		wantPlan(t, what, impl.PlanOf(c, rowOf(401)), impl.PlanOut{Code: impl.ErrSize})
		wantPlan(t, what, impl.Target(c, rowOf(401), []impl.Addr{{}}), impl.PlanOut{Code: impl.ErrSize})
	}
	for _, m := range wrongMoves() {
		check(told(m), moves(m), impl.ErrForm)
	}
	for _, turn := range turns {
		c := fullConfig()
		turn(&c)
		if !impl.ConfigRight(c) {
			check(told(c), c, impl.ErrForm)
		}
	}
	check("blocks that do not rise", blocks(block(bareB()), block(diskA)), impl.ErrForm)
	check("a sum that stands within itself", single(ring(1, index)), impl.ErrForm)
	check("a folded sum", single(folded(ref(diskA, "p"))), impl.ErrForm)
	b, m := slices.Repeat([]impl.Block{block(diskA)}, 402), slices.Repeat([]impl.Move{{Kind: 2, From: bareB(), To: diskA}}, 402)
	for _, many := range []int{400, 401, 402} {
		code := int64(impl.ErrForm)
		if many > 400 {
			code = impl.ErrSize
		}
		check(fmt.Sprint(many, " blocks"), blocks(b[:many]...), code)
		check(fmt.Sprint(many, " moves"), moves(m[:many]...), code)
	}
}

// forty comes to as many things as there may be, in five blocks, each of which needs the one behind it.
func forty(t *testing.T) impl.Config {
	t.Helper()
	text := ""
	for _, w := range abc(4) {
		text += "thing d." + w + " count 8\n  p = @d." + string(w[0]+1) + "[3]:p\n"
	}
	return readConfig(t, text+"thing d.e count 8\n  p = 1\n")
}

// As many things as there may be: all are made, kept, turned or dropped; and a plan of 80 Steps.
func TestPlanOfMany(t *testing.T) {
	c := forty(t)
	made := impl.Expand(c)
	steps := func(kind int64, l []impl.Addr) []impl.Step {
		var out []impl.Step
		for _, a := range l {
			out = append(out, impl.Step{Kind: kind, Addr: a})
		}
		return out
	}
	var turned []impl.Thing
	for _, x := range made.Things {
		x.Pairs = pairs(pair("p", num(2)))
		turned = append(turned, x)
	}
	row, back := rowOf(40), rowOf(40)
	for i := range row[1:] {
		row[i].Needs = []impl.Addr{row[i+1].Addr}
		back[i+1].Needs = []impl.Addr{back[i].Addr}
	}
	all := addrsOfThings(row)
	other := slices.Clone(all)
	slices.Reverse(other)
	wantPlan(t, "40 made", checkPlan(t, c, nil), impl.PlanOut{Steps: steps(2, made.Order)})
	wantPlan(t, "40 kept", checkPlan(t, c, made.Things), impl.PlanOut{Steps: steps(1, made.Order)})
	wantPlan(t, "40 turned", checkPlan(t, c, turned), impl.PlanOut{Steps: steps(3, made.Order)})
	wantPlan(t, "40 dropped", checkPlan(t, impl.Config{}, rowOf(40)), impl.PlanOut{Steps: steps(4, all)})
	wantPlan(t, "40 dropped in a row", checkPlan(t, impl.Config{}, row), impl.PlanOut{Steps: steps(4, all)})
	wantPlan(t, "40 dropped in a row back", checkPlan(t, impl.Config{}, back), impl.PlanOut{Steps: steps(4, other)})
	wantPlan(t, "40 dropped, 40 made", checkPlan(t, c, back), impl.PlanOut{Steps: append(steps(4, other), steps(2, made.Order)...)})
	row[39].Needs = []impl.Addr{row[0].Addr}
	wantPlan(t, "40 dropped in a ring", checkPlan(t, impl.Config{}, row), impl.PlanOut{Steps: steps(4, all)})
	for i := range back {
		back[i].Needs = without(manyAddrs(400), impl.AddrText(back[i].Addr))
	}
	wantPlan(t, "40 of 399 Needs", checkPlan(t, c, back), impl.PlanOut{Steps: append(steps(4, all), steps(2, made.Order)...)})
	for _, many := range []int{41, 400, 401} {
		code := int64(impl.ErrForm)
		if many > 400 {
			code = impl.ErrSize
		}
		wantPlan(t, fmt.Sprint(many), impl.PlanOf(c, rowOf(many)), impl.PlanOut{Code: code})
		wantPlan(t, fmt.Sprint(many), impl.Target(c, rowOf(many), nil), impl.PlanOut{Code: code})
	}
	// Of all that is wanted, and of one that needs one of each block, and so on.
	wantPlan(t, "all are wanted", impl.Target(c, back, made.Order), impl.PlanOut{Steps: steps(2, made.Order)})
	wantPlan(t, "one is wanted", impl.Target(c, back, readAddrs(t, "d.a[7]")), impl.PlanOut{Steps: readSteps(t, "+ d.e[3] + d.d[3] + d.c[3] + d.b[3] + d.a[7]")})
	wantPlan(t, "none is wanted", impl.Target(c, back, nil), impl.PlanOut{})
	wantPlan(t, "41 are wanted", impl.Target(c, back, append(made.Order, made.Order[0])), impl.PlanOut{Code: impl.ErrForm})
}

// someSteps has a Step of each Kind, and one of each Kind that there is not.
func someSteps() []impl.Step {
	var l []impl.Step
	for _, kind := range []int64{1, 2, 3, 4, 0, 5, -1, math.MaxInt64, math.MinInt64} {
		l = append(l, impl.Step{Kind: kind, Addr: diskA})
	}
	return l
}

func TestCalm(t *testing.T) {
	keep := impl.Step{Kind: impl.AcKeep, Addr: diskA}
	addrs := []impl.Addr{diskA}
	for i, lists := range [][]impl.Step{nil, {}, {keep}, {keep, keep}, {{Kind: impl.AcKeep}}, slices.Repeat([]impl.Step{keep}, 401)} {
		for code, want := range map[int64]bool{impl.OK: true, impl.ErrForm: false, impl.ErrMove: false, -1: false, 99: false} {
			if got := impl.Calm(impl.PlanOut{Steps: lists, Code: code}); got != want {
				t.Errorf("%d, of code %d: %v", i, code, got)
			}
			if got := impl.Calm(impl.PlanOut{Steps: lists, Moved: addrs, Code: code}); got != want {
				t.Errorf("%d, of code %d, moved: %v", i, code, got)
			}
			if impl.Calm(impl.PlanOut{Steps: lists, Blocked: addrs, Code: code}) || impl.Calm(impl.PlanOut{Steps: lists, Moved: addrs, Blocked: make([]impl.Addr, 1), Code: code}) {
				t.Errorf("%d, of code %d, blocked: calm", i, code)
			}
		}
	}
	for _, s := range someSteps()[1:] {
		for _, steps := range [][]impl.Step{{s}, {s, keep}, {keep, s}, {keep, s, keep}} {
			if impl.Calm(impl.PlanOut{Steps: steps}) || impl.Calm(impl.PlanOut{Steps: steps, Moved: addrs}) {
				t.Errorf("calm: %+v", steps)
			}
		}
	}
}

func TestPlanText(t *testing.T) {
	steps := someSteps()
	net, far := readAddr(t, "m/n/net.a[7]"), readAddr(t, "disk.a[k]")
	rows := []struct {
		p    impl.PlanOut
		want string
	}{
		{impl.PlanOut{}, ""},
		{impl.PlanOut{Steps: []impl.Step{}, Blocked: []impl.Addr{}}, ""},
		{impl.PlanOut{Steps: steps[:1]}, "= disk.a\n"},
		{impl.PlanOut{Steps: steps[1:2]}, "+ disk.a\n"},
		{impl.PlanOut{Steps: steps[2:3]}, "~ disk.a\n"},
		{impl.PlanOut{Steps: steps[3:4]}, "- disk.a\n"},
		{impl.PlanOut{Steps: steps[4:]}, strings.Repeat("  disk.a\n", 5)},
		{impl.PlanOut{Steps: steps}, "= disk.a\n+ disk.a\n~ disk.a\n- disk.a\n" + strings.Repeat("  disk.a\n", 5)},
		// In the order in which they stand.
		{impl.PlanOut{Steps: []impl.Step{{Kind: 3, Addr: net}, {Kind: 4, Addr: far}, {Kind: 1, Addr: net}}}, "~ m/n/net.a[7]\n- disk.a[k]\n= m/n/net.a[7]\n"},
		// With what is blocked, and with what was moved.
		{impl.PlanOut{Blocked: []impl.Addr{net}}, "! m/n/net.a[7]\n"},
		{impl.PlanOut{Blocked: []impl.Addr{net, far}}, "! m/n/net.a[7]\n! disk.a[k]\n"},
		{impl.PlanOut{Steps: steps[1:4], Blocked: []impl.Addr{far, net}}, "+ disk.a\n~ disk.a\n- disk.a\n! disk.a[k]\n! m/n/net.a[7]\n"},
		{impl.PlanOut{Moved: []impl.Addr{net}}, ""},
		{impl.PlanOut{Steps: steps[:1], Moved: []impl.Addr{net}, Blocked: []impl.Addr{far}}, "= disk.a\n! disk.a[k]\n"},
		{impl.PlanOut{Steps: steps[:1], Moved: make([]impl.Addr, 401)}, "= disk.a\n"},
	}
	for _, r := range rows {
		if got := impl.PlanText(r.p); got != r.want {
			t.Errorf("%+v: got %q, want %q", r.p, got, r.want)
		}
		for _, code := range []int64{impl.ErrForm, impl.ErrNone, impl.ErrMove, -1, 99} {
			r.p.Code = code
			if got := impl.PlanText(r.p); got != "" {
				t.Errorf("%+v: got %q", r.p, got)
			}
		}
	}
	// An address that is not right has the empty text.
	for _, a := range append(wrongAddrs, home("m")) {
		for i, mark := range []string{" ", "=", "+", "~", "-", " "} {
			if got := impl.PlanText(impl.PlanOut{Steps: []impl.Step{{Kind: int64(i), Addr: a}, {Kind: 1, Addr: diskA}}}); got != mark+" \n= disk.a\n" {
				t.Errorf("Kind %d, %+v: got %q", i, a, got)
			}
		}
		if got := impl.PlanText(impl.PlanOut{Blocked: []impl.Addr{a, diskA}}); got != "! \n! disk.a\n" {
			t.Errorf("blocked %+v: got %q", a, got)
		}
	}
}

func TestPlanTextLimits(t *testing.T) {
	for _, steps := range []int{0, 1, 399, 400, 401, 402, 1000} {
		for _, blocked := range []int{0, 1, 399, 400, 401, 402, 1000} {
			p := impl.PlanOut{Steps: slices.Repeat([]impl.Step{{Kind: 2, Addr: diskA}}, steps), Blocked: slices.Repeat([]impl.Addr{diskA}, blocked)}
			want := ""
			if steps <= 400 && blocked <= 400 {
				want = strings.Repeat("+ disk.a\n", steps) + strings.Repeat("! disk.a\n", blocked)
			}
			if got := impl.PlanText(p); got != want {
				t.Errorf("%d and %d: got %d bytes, want %d", steps, blocked, len(got), len(want))
			}
			many := []int64{0, int64(steps), 0, 0}
			if steps > 400 {
				many = nil
			}
			if got := impl.CountOf(p); !slices.Equal(got, many) {
				t.Errorf("%d and %d: got %v, want %v", steps, blocked, got, many)
			}
		}
	}
	// Of the longest addresses a text may be longer than one that may be read.
	long := rightAddrs[22]
	p := impl.PlanOut{Steps: slices.Repeat([]impl.Step{{Kind: 4, Addr: long.addr}}, 400), Blocked: slices.Repeat([]impl.Addr{long.addr}, 400)}
	if got := impl.PlanText(p); got != strings.Repeat("- "+long.text+"\n", 400)+strings.Repeat("! "+long.text+"\n", 400) {
		t.Errorf("got %d bytes", len(got))
	}
}

func TestCountOf(t *testing.T) {
	s := someSteps()
	rows := []struct {
		steps []impl.Step
		want  []int64
	}{
		{nil, []int64{0, 0, 0, 0}},
		{[]impl.Step{}, []int64{0, 0, 0, 0}},
		{s[:1], []int64{1, 0, 0, 0}},
		{s[1:2], []int64{0, 1, 0, 0}},
		{s[2:3], []int64{0, 0, 1, 0}},
		{s[3:4], []int64{0, 0, 0, 1}},
		{s[4:], []int64{0, 0, 0, 0}},
		{s, []int64{1, 1, 1, 1}},
		{slices.Concat(s, s[1:], s[2:], s[3:]), []int64{1, 2, 3, 4}},
		{slices.Concat(s[3:4], s[:1], s[3:4]), []int64{1, 0, 0, 2}},
		{[]impl.Step{{Kind: 3}, {Kind: 3, Addr: home("m")}}, []int64{0, 0, 2, 0}},
		{slices.Repeat(s[3:4], 400), []int64{0, 0, 0, 400}},
		{slices.Concat(slices.Repeat(s[:4], 99), s[4:8]), []int64{99, 99, 99, 99}},
		{slices.Repeat(s[3:4], 401), nil},
		{slices.Repeat(s[4:5], 401), nil},
	}
	for _, r := range rows {
		for _, list := range [][]impl.Addr{nil, {diskA}, make([]impl.Addr, 401)} {
			got := impl.CountOf(impl.PlanOut{Steps: r.steps, Moved: list, Blocked: list})
			if !slices.Equal(got, r.want) {
				t.Errorf("%.300s: got %v, want %v", told(r.steps), got, r.want)
			}
		}
		for _, code := range []int64{impl.ErrForm, impl.ErrSize, impl.ErrMove, -1, 99} {
			if got := impl.CountOf(impl.PlanOut{Steps: r.steps, Code: code}); len(got) > 0 {
				t.Errorf("of code %d: %v", code, got)
			}
		}
	}
	// Whoever writes to an answer changes no other one.
	p := impl.PlanOut{Steps: s}
	impl.CountOf(p)[0] = 7
	if got := impl.CountOf(p); !slices.Equal(got, []int64{1, 1, 1, 1}) {
		t.Errorf("got %v", got)
	}
}

func TestTarget(t *testing.T) {
	config := "thing d.a\n  p = @d.b:p\nthing d.b\n  p = @d.c:p\nthing d.c\n  p = 1\nthing d.d\n  p = 2\nthing d.e\n  p = (@d.a:p + @d.d:p)\nthing d.f count 3\n  p = #\n" +
		"thing e.a each k,l\n  p = (@d.d:p + @d.f[1]:p)\nmovedall d.m d.c\nmovedall d.n d.g\n"
	// What the things of the book need is no matter of it.
	book := "d.a p=5 <d.e\nd.b p=1 <d.d <d.z\nd.d <d.f[0] <e.a[k]\nd.f[1] p=1\nd.g\nd.m p=1\nd.n p=2\nd.y <d.c\nd.z <d.y\n"
	c, l := readConfig(t, config), readBook(t, book)
	all := impl.PlanOut{Moved: readAddrs(t, "d.m"), Blocked: readAddrs(t, "d.n")}
	all.Steps = readSteps(t, "- d.g - d.n - d.z - d.y = d.c = d.b ~ d.a ~ d.d + d.e + d.f[0] = d.f[1] + d.f[2] + e.a[k] + e.a[l]")
	wantPlan(t, "all", checkPlan(t, c, l), all)
	rows := [][2]string{
		// None, and one that needs none.
		{"", ""},
		{"d.c", "= d.c"},
		{"d.d", "~ d.d"},
		{"d.f[0]", "+ d.f[0]"},
		{"d.f[1]", "= d.f[1]"},
		// One that needs others, in a row, and by several ways.
		{"d.b", "= d.c = d.b"},
		{"d.a", "= d.c = d.b ~ d.a"},
		{"d.e", "= d.c = d.b ~ d.a ~ d.d + d.e"},
		{"e.a[l]", "~ d.d = d.f[1] + e.a[l]"},
		// Several, in whatever order, twice, and with those that they need.
		{"d.d d.c", "= d.c ~ d.d"},
		{"d.f[2] d.b", "= d.c = d.b + d.f[2]"},
		{"d.a d.b d.c", "= d.c = d.b ~ d.a"},
		{"d.a d.a", "= d.c = d.b ~ d.a"},
		{"e.a[l] e.a[k] e.a[l]", "~ d.d = d.f[1] + e.a[k] + e.a[l]"},
		{"e.a[k] d.e", "= d.c = d.b ~ d.a ~ d.d + d.e = d.f[1] + e.a[k]"},
		// All, and all but one that nothing needs.
		{"d.e d.f[0] d.f[2] e.a[k] e.a[l]", "= d.c = d.b ~ d.a ~ d.d + d.e + d.f[0] = d.f[1] + d.f[2] + e.a[k] + e.a[l]"},
		{"d.a d.b d.c d.d d.e d.f[0] d.f[1] d.f[2] e.a[k] e.a[l]", "= d.c = d.b ~ d.a ~ d.d + d.e + d.f[0] = d.f[1] + d.f[2] + e.a[k] + e.a[l]"},
		{"d.a d.b d.c d.d d.f[0] d.f[1] d.f[2] e.a[k] e.a[l]", "= d.c = d.b ~ d.a ~ d.d + d.f[0] = d.f[1] + d.f[2] + e.a[k] + e.a[l]"},
	}
	for _, r := range rows {
		want := impl.PlanOut{Steps: readSteps(t, r[1]), Moved: all.Moved, Blocked: all.Blocked}
		wantPlan(t, "wanted is "+r[0], impl.Target(c, l, readAddrs(t, r[0])), want)
		wantPlan(t, "as foretold, wanted is "+r[0], targetTold(c, l, readAddrs(t, r[0])), want)
	}
	// What is to be dropped, what was moved or is blocked, and what is nowhere: c does not come to it.
	for _, none := range []string{"d.g", "d.m", "d.n", "d.y", "d.z", "q.q", "d.f", "d.f[3]", "d.f[k]", "e.a", "e.a[0]", "e.a[m]", "m/d.a", "d.aa"} {
		for _, line := range []string{none, none + " d.a", "d.a " + none, "d.a d.b " + none + " d.c"} {
			wantPlan(t, "wanted is "+line, impl.Target(c, l, readAddrs(t, line)), impl.PlanOut{Code: impl.ErrNone})
		}
	}
	wantPlan(t, "of no config", impl.Target(impl.Config{}, l, readAddrs(t, "d.a")), impl.PlanOut{Code: impl.ErrNone})
	wantPlan(t, "none of no config", impl.Target(impl.Config{}, l, nil), impl.PlanOut{})
	wantPlan(t, "of no book", impl.Target(c, nil, readAddrs(t, "d.b")), impl.PlanOut{Steps: readSteps(t, "+ d.c + d.b")})
}

// The same answer comes each time, whichever goroutine is ahead; also where many ask at once.
func TestPlansComeAgain(t *testing.T) {
	c, l := forty(t), rowOf(40)
	for i := range l[1:] {
		l[i+1].Needs = []impl.Addr{l[i].Addr}
	}
	small, book := readConfig(t, "thing d.b\n  p = 1\nthing d.z\nmovedall d.a d.b\n"), readBook(t, "d.a p=1\nd.c <d.z\nd.d <d.c\n")
	ask := func() string {
		return told([]any{impl.PlanOf(c, l), impl.PlanOf(small, book), impl.PlanOf(small, nil), impl.PlanOf(impl.Config{}, l), impl.Target(c, l, readAddrs(t, "d.a[1] d.c[2]"))})
	}
	want := ask()
	defer runtime.GOMAXPROCS(runtime.GOMAXPROCS(0))
	for _, procs := range []int{1, 2, 3, 8} {
		runtime.GOMAXPROCS(procs)
		var all sync.WaitGroup
		for range 8 {
			all.Add(1)
			go func() {
				defer all.Done()
				for range 12 {
					if got := ask(); got != want {
						t.Errorf("got %s, want %s", got, want)
						return
					}
				}
			}()
		}
		all.Wait()
	}
}

// None of those who tell what is to be done is left behind.
func TestPlansLeaveNoneBehind(t *testing.T) {
	before := runtime.NumGoroutine()
	for range 200 {
		impl.PlanOf(forty(t), rowOf(40))
		impl.PlanOf(forty(t), rowOf(41))
		impl.Target(forty(t), rowOf(3), readAddrs(t, "d.a"))
		impl.PlanOf(impl.Config{}, nil)
	}
	// One that has told all may still be on its way out.
	for range 200 {
		if runtime.NumGoroutine() <= before {
			return
		}
		time.Sleep(10 * time.Millisecond)
	}
	t.Errorf("there were %d, and are %d", before, runtime.NumGoroutine())
}

// roomyPlan is a config and a book of which something is kept, made, turned, dropped, moved and blocked; with room behind
// each list.
func roomyPlan() (impl.Config, []impl.Thing) {
	c, l := roomyMoves(), roomyBook()
	net := impl.Addr{Path: roomy("o", "p"), Type: "net", Name: "a"}
	c.Blocks[0].Each = roomy("a", "b", "c")
	c.Blocks[0].Props = append(c.Blocks[0].Props, prop("q", ref(impl.Addr{Path: roomy("o", "p"), Type: "net", Name: "b", Kind: 1}, "p")))
	c.Blocks = append(c.Blocks, counted(impl.Addr{Path: roomy("o", "p"), Type: "net", Name: "b"}, 2, prop("p", index)))
	for i, key := range []string{"a", "b"} {
		x := impl.Thing{Addr: net, Pairs: append(make([]impl.Pair, 0, 4), pair("p", letters("a")), pair("q", num(0)))}
		x.Addr.Path = roomy("o", "p")
		x.Addr.Kind, x.Addr.Key = 2, key
		x.Needs = append(make([]impl.Addr, 0, 4), impl.Addr{Path: roomy("m", "n"), Type: "disk", Name: []string{"c", "d"}[i]})
		l = append(l, x)
	}
	return c, l
}

func roomyWants() []impl.Addr {
	l := make([]impl.Addr, 0, 6)
	for _, key := range []string{"c", "a", "left"} {
		l = append(l, impl.Addr{Path: roomy("o", "p"), Type: "net", Name: "a", Kind: 2, Key: key})
	}
	return l[:2]
}

func addrMemory(l []impl.Addr) []any {
	all := []any{l[:cap(l)]}
	for _, a := range l[:cap(l)] {
		all = append(all, a.Path[:cap(a.Path)])
	}
	return all
}

func planMemory(p impl.PlanOut) []any {
	all := []any{p.Steps[:cap(p.Steps)], addrMemory(p.Moved), addrMemory(p.Blocked)}
	for _, s := range p.Steps[:cap(p.Steps)] {
		all = append(all, s.Addr.Path[:cap(s.Addr.Path)])
	}
	return all
}

// No call changes what is handed in, nor what stands behind it in its memory, whatever it tells.
func TestPlanArgumentsStay(t *testing.T) {
	c, l := roomyPlan()
	many := impl.CountOf(checkPlan(t, c, l))
	if p := impl.PlanOf(c, l); !slices.Equal(many, []int64{1, 3, 1, 4}) || len(p.Moved) != 2 || len(p.Blocked) != 1 {
		t.Errorf("it tells too little: %s", planLines(p))
	}
	if p := impl.Target(c, l, roomyWants()); len(p.Steps) != 3 {
		t.Errorf("it tells too little: %s", planLines(p))
	}
	keep := func(l []impl.Thing) []impl.Thing { return l }
	wrong := func(l []impl.Addr) []impl.Addr {
		l[0].Name = "A"
		return l
	}
	away := func(l []impl.Addr) []impl.Addr {
		l[1].Name = "z"
		return l
	}
	same := func(l []impl.Addr) []impl.Addr { return l }
	for i, turn := range append(bookTurns, keep) {
		for j, turnWants := range []func([]impl.Addr) []impl.Addr{same, wrong, away} {
			c, l := roomyPlan()
			full, wants := fullConfig(), turnWants(roomyWants())
			l = turn(l)
			memory := func() string {
				return told([]any{moveMemory(c), moveMemory(full), thingMemory(l), addrMemory(wants)})
			}
			before := memory()
			impl.PlanOf(c, l)
			impl.PlanOf(full, l)
			impl.PlanOf(c, l[:min(len(l), 1)])
			impl.Target(c, l, wants)
			impl.Target(c, l, wants[:1])
			impl.Target(full, l, wants)
			if after := memory(); after != before {
				t.Errorf("%d, %d: got %s, want %s", i, j, after, before)
			}
		}
	}
	for _, turn := range turns {
		c := fullConfig()
		turn(&c)
		_, l := roomyPlan()
		before := told([]any{moveMemory(c), thingMemory(l)})
		impl.PlanOf(c, l)
		impl.Target(c, l, roomyWants())
		if after := told([]any{moveMemory(c), thingMemory(l)}); after != before {
			t.Errorf("got %s, want %s", after, before)
		}
	}
	p := impl.PlanOf(c, l)
	p.Steps = append(make([]impl.Step, 0, 20), p.Steps...)
	for _, kind := range []int64{0, 1, 5} {
		p.Steps[1].Kind = kind
		before := told(planMemory(p))
		impl.Calm(p)
		impl.PlanText(p)
		impl.CountOf(p)
		if after := told(planMemory(p)); after != before {
			t.Errorf("got %s, want %s", after, before)
		}
	}
}

// No two lists of an answer share memory, nor with what was handed in; whoever writes to an answer changes nothing else.
func TestPlanAnswersAreNewMemory(t *testing.T) {
	c, l := roomyPlan()
	wants := roomyWants()
	before := told([]any{moveMemory(c), thingMemory(l), addrMemory(wants)})
	plans := func() []impl.PlanOut {
		return []impl.PlanOut{impl.PlanOf(c, l), impl.PlanOf(c, l), impl.PlanOf(impl.Config{}, l), impl.PlanOf(c, nil), impl.Target(c, l, wants), impl.Target(c, l, wants), impl.Target(c, l, nil)}
	}
	answers := plans()
	want := told(answers)
	checkMemory(t, c, l, wants, answers)
	checkApart(t, answers, []any{c, l, wants})
	if len(answers[0].Steps) != 9 || len(answers[0].Moved) == 0 || len(answers[4].Steps) != 3 || len(answers[4].Blocked) == 0 {
		t.Errorf("they tell too little: %+v", answers)
	}
	checkApart(t, impl.PlanText(answers[0]), answers[0])
	for _, p := range answers {
		for i := range p.Steps {
			p.Steps[i].Addr.Path[0] = "changed"
			p.Steps[i] = impl.Step{}
		}
		_ = append(p.Steps, impl.Step{})
		for _, list := range [][]impl.Addr{p.Moved, p.Blocked} {
			for i := range list {
				list[i].Path[0] = "changed"
				list[i] = impl.Addr{}
			}
			_ = append(list, impl.Addr{})
		}
	}
	if after := told([]any{moveMemory(c), thingMemory(l), addrMemory(wants)}); after != before {
		t.Errorf("got %s, want %s", after, before)
	}
	if again := told(plans()); again != want {
		t.Errorf("got %s, want %s", again, want)
	}
}
