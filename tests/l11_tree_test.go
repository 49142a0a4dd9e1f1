package tests

import (
	"math"
	"strconv"
	"strings"
	"testing"

	"loop.example/sispass/impl"
)

func TestCoreSorts(t *testing.T) {
	for i, sort := range []int{impl.CoreConst, impl.CoreRef, impl.CoreLambda, impl.CoreCall, impl.CoreIf, impl.CoreSet, impl.CoreBegin, impl.CoreRec, impl.CoreDefine} {
		if sort != i+1 {
			t.Errorf("Sort %d: %d", i+1, sort)
		}
	}
}

func TestShowOfEachSort(t *testing.T) {
	x, y, one := ref("x"), ref("y"), constant("1")
	for _, c := range []struct {
		part impl.ExpCore
		want string
	}{
		{one, "1"},
		{constant("'(a . b)"), "'(a . b)"},
		{constant(`"s"`), `"s"`},
		{x, "x"},
		{lambda(names("x"), x), "(lambda (x) x)"},
		{lambda(names("x", "y"), x), "(lambda (x y) x)"},
		{lambda(nil, x), "(lambda () x)"},
		{restLambda(names("x"), x), "(lambda (. x) x)"},
		{restLambda(names("x", "y"), x), "(lambda (x . y) x)"},
		{restLambda(names("x", "y", "z"), x), "(lambda (x y . z) x)"},
		{call(x), "(x)"},
		{call(x, y, one), "(x y 1)"},
		{choice(x, y), "(if x y)"},
		{choice(x, y, one), "(if x y 1)"},
		{set("x", y), "(set! x y)"},
		{begin(x), "(begin x)"},
		{begin(x, y), "(begin x y)"},
		{rec(names("x"), y, x), "(rec (x) y x)"},
		{rec(names("x", "y"), y, x, one), "(rec (x y) y x 1)"},
		{define("x", y), "(define x y)"},
	} {
		checkShow(t, c.part, c.want)
	}
}

// What is shown of what is not ok: what the table has of its Sort, as far as it is there.
func TestShowOfWhatIsNotOk(t *testing.T) {
	x, y := ref("x"), ref("y")
	full := func(sort int) impl.ExpCore {
		return impl.ExpCore{Sort: sort, Text: "T", Rest: true, Names: names("m", "n"), Kids: parts(x, y)}
	}
	for _, c := range []struct {
		part impl.ExpCore
		want string
	}{
		{full(impl.CoreConst), "T"},
		{full(impl.CoreRef), "T"},
		{full(impl.CoreLambda), "(lambda (m . n) x y)"},
		{full(impl.CoreCall), "(x y)"},
		{full(impl.CoreIf), "(if x y)"},
		{full(impl.CoreSet), "(set! T x y)"},
		{full(impl.CoreBegin), "(begin x y)"},
		{full(impl.CoreRec), "(rec (m n) x y)"},
		{full(impl.CoreDefine), "(define T x y)"},
		{full(0), "( x y)"},
		{full(10), "( x y)"},
		{full(-1), "( x y)"},
		{full(math.MinInt), "( x y)"},
		{full(math.MaxInt), "( x y)"},
		{constant(""), ""},
		{ref(""), ""},
		{lambda(nil), "(lambda ())"},
		{lambda(names("x")), "(lambda (x))"},
		{restLambda(nil), "(lambda ())"},
		{restLambda(nil, x), "(lambda () x)"},
		{restLambda(names("")), "(lambda (. ))"},
		{lambda(names("", "")), "(lambda ( ))"},
		{call(), "()"},
		{choice(), "(if)"},
		{choice(x), "(if x)"},
		{choice(x, y, x, y), "(if x y x y)"},
		{set("x"), "(set! x)"},
		{set("", x), "(set!  x)"},
		{set("(", x), "(set! ( x)"},
		{begin(), "(begin)"},
		{rec(nil), "(rec ())"},
		{rec(nil, x), "(rec () x)"},
		{rec(names("x")), "(rec (x))"},
		{define("x"), "(define x)"},
		{define("", x, y), "(define  x y)"},
		{impl.ExpCore{}, "()"},
		{impl.ExpCore{Sort: 10}, "()"},
		{impl.ExpCore{Sort: -1, Kids: parts(x)}, "( x)"},
		{impl.ExpCore{Kids: parts(impl.ExpCore{}, call(call()))}, "( () (()))"},
		{call(constant(""), constant("")), "( )"},
		{call(constant("("), x), "(( x)"},
		{constant("\x00\xff\n"), "\x00\xff\n"},
		{define("\xff", constant("\xfe")), "(define \xff \xfe)"},
	} {
		checkShow(t, c.part, c.want)
	}
}

func checkShow(t *testing.T, c impl.ExpCore, want string) {
	t.Helper()
	if got := impl.ExpCoreShow(c); got != want || showAgain(c) != want {
		t.Errorf("%+v: %q; want %q (and %q)", c, got, want, showAgain(c))
	}
}

func TestShowOfKidsInKids(t *testing.T) {
	x, y := ref("x"), ref("y")
	for _, c := range []struct {
		part impl.ExpCore
		want string
	}{
		{call(call(call(x))), "(((x)))"},
		{call(call(x, y), call(y), x), "((x y) (y) x)"},
		{lambda(names("x"), restLambda(names("y"), call(x, y))), "(lambda (x) (lambda (. y) (x y)))"},
		{define("f", lambda(names("n"), choice(call(ref("<"), ref("n"), constant("2")), constant("1"), call(ref("*"), ref("n"), call(ref("f"), ref("n")))))), "(define f (lambda (n) (if (< n 2) 1 (* n (f n)))))"},
		{rec(names("f", "g"), lambda(nil, set("x", y)), lambda(nil, begin(x)), call(x)), "(rec (f g) (lambda () (set! x y)) (lambda () (begin x)) (x))"},
		{impl.ExpCore{Kids: parts(choice(x, impl.ExpCore{Sort: 11, Kids: parts(y)}))}, "( (if x ( y)))"},
	} {
		checkShow(t, c.part, c.want)
	}
}

func TestShowOfSome(t *testing.T) {
	m := newMaker(11)
	for range 3000 {
		list := m.program()
		for range m.random.Intn(3) {
			m.spoil(list)
		}
		before := cloneParts(list)
		for _, c := range list {
			if got, want := impl.ExpCoreShow(c), showAgain(c); got != want {
				t.Fatalf("%+v: %q; want %q", c, got, want)
			}
		}
		if !sameParts(list, before) {
			t.Fatalf("showing changed %+v to %+v", before, list)
		}
	}
}

// Nothing is written behind the end of what is shown, where Names have spare room.
func TestShowWritesNothing(t *testing.T) {
	room := []string{"a", "b", "c"}
	kids := []impl.ExpCore{ref("x"), ref("y")}
	c := restLambda(room[:2], kids[:1]...)
	c.Kids = kids[:1]
	checkShow(t, c, "(lambda (a . b) x)")
	if strings.Join(room, " ") != "a b c" || !sameParts(kids, parts(ref("x"), ref("y"))) {
		t.Errorf("%v %v", room, kids)
	}
}

const veryDeep = 300_000

func TestShowOfVeryDeep(t *testing.T) {
	got := impl.ExpCoreShow(nest(ref("x"), veryDeep))
	if want := strings.Repeat("(begin ", veryDeep) + "x" + strings.Repeat(")", veryDeep); got != want {
		t.Errorf("%d bytes; want %d", len(got), len(want))
	}
}

// checkAlpha asks in both directions, also with more around, and of each with itself.
func checkAlpha(t *testing.T, a []impl.ExpCore, b []impl.ExpCore, want bool) {
	t.Helper()
	if again := alphaAgain(a, b, nil); again != want {
		t.Fatalf("wanted %v, and it is to be %v: %+v, %+v", want, again, a, b)
	}
	aBefore, bBefore := cloneParts(a), cloneParts(b)
	if impl.ExpAlpha(a, b) != want || impl.ExpAlpha(b, a) != want {
		t.Errorf("ExpAlpha of %+v, %+v is not %v", a, b, want)
	}
	if !impl.ExpAlpha(a, a) || !impl.ExpAlpha(b, cloneParts(b)) {
		t.Errorf("ExpAlpha of %+v or %+v with itself is not true", a, b)
	}
	if !sameParts(a, aBefore) || !sameParts(b, bBefore) {
		t.Errorf("ExpAlpha changed %+v or %+v", a, b)
	}
}

func TestAlphaOfNames(t *testing.T) {
	a, b, c, f := ref("a"), ref("b"), ref("c"), ref("f")
	for _, x := range []struct {
		a, b impl.ExpCore
		want bool
	}{
		// Names of the whole program.
		{a, a, true},
		{a, b, false},
		{define("a", a), define("a", a), true},
		{define("a", f), define("b", f), false},
		{set("a", f), set("b", f), false},
		// Bound otherwise.
		{lambda(names("a"), a), lambda(names("b"), b), true},
		{lambda(names("a"), a), lambda(names("b"), a), false},
		{lambda(names("a"), f), lambda(names("b"), f), true},
		{lambda(names("a"), set("a", a)), lambda(names("b"), set("b", b)), true},
		{lambda(names("a"), set("a", a)), lambda(names("b"), set("a", b)), false},
		{lambda(names("a"), define("a", a)), lambda(names("b"), define("b", b)), true},
		{lambda(names("a"), define("a", a)), lambda(names("b"), define("a", b)), false},
		{restLambda(names("a", "b"), call(a, b)), restLambda(names("b", "a"), call(b, a)), true},
		{lambda(names("a", "b"), call(a, b)), lambda(names("b", "a"), call(a, b)), false},
		{rec(names("a"), a, a), rec(names("b"), b, b), true},
		{rec(names("a"), a, a), rec(names("b"), b, a), false},
		{rec(names("a", "b"), a, b, f), rec(names("b", "c"), b, c, f), true},
		// A name that is bound on one side alone.
		{lambda(names("a"), call(f, a)), lambda(names("f"), call(f, f)), false},
		{lambda(names("a"), f), lambda(names("f"), f), false},
		{lambda(names("a"), a), lambda(names("f"), a), false},
		{lambda(names("a"), b), lambda(names("b"), a), false},
		// Within and around.
		{lambda(names("a"), lambda(names("b"), call(a, b))), lambda(names("b"), lambda(names("a"), call(b, a))), true},
		{lambda(names("a"), lambda(names("b"), a)), lambda(names("a"), lambda(names("b"), b)), false},
		{lambda(names("a"), lambda(names("a"), a)), lambda(names("b"), lambda(names("c"), c)), true},
		{lambda(names("a"), lambda(names("a"), a)), lambda(names("b"), lambda(names("c"), b)), false},
		{lambda(names("a"), lambda(names("b"), a)), lambda(names("c"), lambda(names("c"), c)), false},
		{lambda(names("a"), call(lambda(names("b"), b), a)), lambda(names("c"), call(lambda(names("c"), c), c)), true},
		{call(lambda(names("a"), a), a), call(lambda(names("b"), b), a), true},
		{call(lambda(names("a"), a), a), call(lambda(names("b"), b), b), false},
		{begin(lambda(names("a"), a), lambda(names("b"), a)), begin(lambda(names("b"), b), lambda(names("a"), a)), false},
		{lambda(names("a"), begin(lambda(names("a"), a), a)), lambda(names("c"), begin(lambda(names("b"), b), c)), true},
		{lambda(names("a"), begin(lambda(names("a"), a), a)), lambda(names("c"), begin(lambda(names("b"), b), b)), false},
		// Two names on one side for one on the other.
		{lambda(names("a", "b"), call(a, b)), lambda(names("a", "a"), call(a, a)), false},
		{lambda(names("a", "b"), call(b, b)), lambda(names("a", "a"), call(a, a)), true},
		{lambda(names("a", "b"), call(a, a)), lambda(names("a", "a"), call(a, a)), false},
		{lambda(names("a"), lambda(names("b"), call(a, b))), lambda(names("c"), lambda(names("c"), call(c, c))), false},
		{lambda(names("a"), lambda(names("b"), call(b, b))), lambda(names("c"), lambda(names("c"), call(c, c))), true},
		// One name twice within one Names: the last one counts.
		{lambda(names("a", "a"), a), lambda(names("b", "c"), c), true},
		{lambda(names("a", "a"), a), lambda(names("b", "c"), b), false},
		{lambda(names("a", "a"), a), lambda(names("b", "b"), b), true},
		{lambda(names("a", "a", "b"), call(a, b)), lambda(names("c", "b", "a"), call(b, a)), true},
		{lambda(names("a", "b", "a"), call(a, b)), lambda(names("c", "b", "a"), call(a, b)), true},
		{lambda(names("a", "b", "a"), call(a, b)), lambda(names("c", "b", "a"), call(c, b)), false},
		{begin(lambda(names("a", "a"), a), a), begin(lambda(names("b", "b"), b), a), true},
		{begin(lambda(names("a", "a"), a), a), begin(lambda(names("b", "b"), b), b), false},
	} {
		checkAlpha(t, parts(x.a), parts(x.b), x.want)
		checkAlpha(t, parts(begin(f, x.a)), parts(begin(f, x.b)), x.want)
		checkAlpha(t, parts(lambda(names("u"), x.a)), parts(lambda(names("v"), x.b)), x.want)
		checkAlpha(t, parts(f, x.a, f), parts(f, x.b, f), x.want)
	}
}

func TestAlphaOfTheRest(t *testing.T) {
	a, b, f := ref("a"), ref("b"), ref("f")
	withText := func(text string, c impl.ExpCore) impl.ExpCore { c.Text = text; return c }
	for _, x := range []struct {
		a, b impl.ExpCore
		want bool
	}{
		// A Text of any other Sort is no name.
		{constant("1"), constant("1"), true},
		{constant("1"), constant("2"), false},
		{lambda(names("a"), constant("'a")), lambda(names("b"), constant("'b")), false},
		{lambda(names("a"), constant("a")), lambda(names("b"), constant("b")), false},
		{lambda(names("a"), constant("a")), lambda(names("b"), constant("a")), true},
		{withText("a", call(f)), withText("b", call(f)), false},
		{withText("a", call(f)), withText("a", call(f)), true},
		{withText("a", lambda(names("a"), a)), withText("b", lambda(names("b"), b)), false},
		{lambda(names("a"), withText("a", begin(f))), lambda(names("b"), withText("b", begin(f))), false},
		{lambda(names("a"), withText("a", choice(f))), lambda(names("b"), withText("a", choice(f))), true},
		{lambda(names("a"), withText("a", rec(nil, f))), lambda(names("b"), withText("b", rec(nil, f))), false},
		{lambda(names("a"), impl.ExpCore{Text: "a"}), lambda(names("b"), impl.ExpCore{Text: "b"}), false},
		{lambda(names("a"), impl.ExpCore{Sort: 10, Text: "a"}), lambda(names("b"), impl.ExpCore{Sort: 10, Text: "b"}), false},
		{lambda(names("a"), impl.ExpCore{Sort: -2, Text: "a"}), lambda(names("b"), impl.ExpCore{Sort: -2, Text: "a"}), true},
		// Sort and Rest.
		{a, constant("a"), false},
		{begin(a), call(a), false},
		{set("a", f), define("a", f), false},
		{impl.ExpCore{}, impl.ExpCore{Sort: 10}, false},
		{impl.ExpCore{Sort: 10}, impl.ExpCore{Sort: 11}, false},
		{impl.ExpCore{}, impl.ExpCore{}, true},
		{lambda(names("a"), a), restLambda(names("a"), a), false},
		{restLambda(names("a"), a), restLambda(names("b"), b), true},
		{impl.ExpCore{Rest: true}, impl.ExpCore{}, false},
		// As many Names, and as many Kids.
		{lambda(names("a"), f), lambda(nil, f), false},
		{lambda(names("a"), f), lambda(names("a", "b"), f), false},
		{call(f), call(f, f), false},
		{call(f), call(), false},
		{choice(a, b), choice(a, b, f), false},
		{call(), call(), true},
		{begin(call(f), f), begin(call(f, f)), false},
		{begin(call(f, f)), begin(call(f), call(f)), false},
		// Names of any Sort are bound within it; its own Text is not within.
		{impl.ExpCore{Sort: 4, Names: names("a"), Kids: parts(a)}, impl.ExpCore{Sort: 4, Names: names("b"), Kids: parts(b)}, true},
		{impl.ExpCore{Sort: 4, Names: names("a"), Kids: parts(a)}, impl.ExpCore{Sort: 4, Names: names("b"), Kids: parts(a)}, false},
		{impl.ExpCore{Sort: 2, Text: "a", Names: names("a")}, impl.ExpCore{Sort: 2, Text: "b", Names: names("b")}, false},
		{impl.ExpCore{Sort: 6, Text: "a", Names: names("a"), Kids: parts(a)}, impl.ExpCore{Sort: 6, Text: "a", Names: names("b"), Kids: parts(b)}, true},
		{impl.ExpCore{Sort: 0, Names: names("a")}, impl.ExpCore{Sort: 0}, false},
	} {
		checkAlpha(t, parts(x.a), parts(x.b), x.want)
		checkAlpha(t, parts(begin(x.a, f)), parts(begin(x.b, f)), x.want)
	}
}

func TestAlphaOfLists(t *testing.T) {
	a, b := ref("a"), ref("b")
	checkAlpha(t, nil, nil, true)
	checkAlpha(t, nil, parts(), true)
	checkAlpha(t, parts(a), nil, false)
	checkAlpha(t, parts(a, b), parts(a), false)
	checkAlpha(t, parts(a, b), parts(a, b), true)
	checkAlpha(t, parts(a, b), parts(b, a), false)
	// What one part binds isn't bound in the next one.
	checkAlpha(t, parts(lambda(names("a"), a), a), parts(lambda(names("b"), b), a), true)
	checkAlpha(t, parts(lambda(names("a"), a), a), parts(lambda(names("b"), b), b), false)
}

// renamed binds a name of its own for each of Names, so that what is bound is another one everywhere. (Promise 13.)
func renamed(list []impl.ExpCore, known map[string]string, count *int) []impl.ExpCore {
	var all []impl.ExpCore
	for _, c := range list {
		inner := map[string]string{}
		for name, now := range known {
			inner[name] = now
		}
		if now, bound := known[c.Text]; bound && (c.Sort == impl.CoreRef || c.Sort == impl.CoreSet) {
			c.Text = now
		}
		var bound []string
		for _, name := range c.Names {
			*count++
			inner[name] = "n." + strconv.Itoa(*count)
			bound = append(bound, inner[name])
		}
		c.Names, c.Kids = bound, renamed(c.Kids, inner, count)
		all = append(all, c)
	}
	return all
}

func TestAlphaOfRenamed(t *testing.T) {
	m := newMaker(13)
	for range 3000 {
		list := m.program()
		count := 0
		other := renamed(list, nil, &count)
		if !impl.CoreOk(list) || !impl.CoreOk(other) {
			t.Fatalf("%+v or %+v is not ok", list, other)
		}
		checkAlpha(t, list, other, true)
	}
}

// Programs that differ little, or not but in names: as the document's words say, also if they are not ok.
func TestAlphaOfSome(t *testing.T) {
	m := newMaker(131)
	m.names = []string{"a", "b"}
	told := map[bool]int{}
	for range 40000 {
		list := parts(m.part(4))
		other := cloneParts(list)
		for range m.random.Intn(4) {
			eachPart(other, func(c *impl.ExpCore) { m.swapNames(c) })
		}
		for range m.random.Intn(2) {
			m.spoil(other)
		}
		want := alphaAgain(list, other, nil)
		told[want]++
		checkAlpha(t, list, other, want)
	}
	if told[true] < 1000 || told[false] < 1000 {
		t.Errorf("too few of one kind: %v", told)
	}
}

// swapNames changes names at random places. It changes what it is given.
func (m maker) swapNames(c *impl.ExpCore) {
	if c.Sort == impl.CoreRef && m.random.Intn(6) == 0 {
		c.Text = m.pick(m.names)
	}
	for i := range c.Names {
		if m.random.Intn(6) == 0 {
			c.Names[i] = m.pick(m.names)
		}
	}
}

func TestAlphaOfVeryDeep(t *testing.T) {
	a, b, c := ref("a"), ref("b"), ref("b")
	for range veryDeep {
		a, b, c = lambda(names("a"), a), lambda(names("b"), b), lambda(names("c"), c)
	}
	if !impl.ExpAlpha(parts(a), parts(b)) || impl.ExpAlpha(parts(a), parts(c)) {
		t.Error("very deep")
	}
}

// Many names and as many that are asked for are told in time.
func TestAlphaOfMany(t *testing.T) {
	var aNames, bNames []string
	var aKids, bKids []impl.ExpCore
	for i := range 100_000 {
		aNames, bNames = append(aNames, "a"+strconv.Itoa(i)), append(bNames, "b"+strconv.Itoa(i))
		aKids, bKids = append(aKids, ref(aNames[i])), append(bKids, ref(bNames[i]))
	}
	if !impl.ExpAlpha(parts(lambda(aNames, aKids...)), parts(lambda(bNames, bKids...))) {
		t.Error("many names")
	}
}
