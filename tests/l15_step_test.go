package tests

import (
	"math"
	"reflect"
	"slices"
	"strconv"
	"strings"
	"testing"

	"loop.example/sispass/impl"
)

// sameFrames, and what follows, compare as sameAs does, but without making copies, as many states are compared.
func sameFrames(a []impl.CoreFrame, b []impl.CoreFrame) bool {
	return slices.EqualFunc(a, b, func(x, y impl.CoreFrame) bool {
		if !slices.Equal(x.Vals, y.Vals) {
			return false
		}
		x.Vals, y.Vals = nil, nil
		return reflect.DeepEqual(x, y)
	})
}

func sameStates(a impl.CoreState, b impl.CoreState) bool {
	lists := slices.Equal(a.Vals, b.Vals) && sameFrames(a.Frames, b.Frames) && slices.Equal(a.Envs, b.Envs) && slices.Equal(a.Cells, b.Cells) &&
		slices.Equal(a.Globals, b.Globals) && slices.Equal(a.Pairs, b.Pairs) && slices.Equal(a.Closures, b.Closures) && slices.Equal(a.Winds, b.Winds) &&
		slices.Equal(a.Hands, b.Hands) && slices.Equal(a.Binds, b.Binds) && slices.Equal(a.Conts, b.Conts) && slices.Equal(a.Errors, b.Errors) && slices.Equal(a.Params, b.Params)
	return lists && reflect.DeepEqual(withoutLists(a), withoutLists(b))
}

func withoutLists(s impl.CoreState) impl.CoreState {
	s.Vals, s.Frames, s.Envs, s.Cells, s.Globals, s.Pairs, s.Closures = nil, nil, nil, nil, nil, nil, nil
	s.Winds, s.Hands, s.Binds, s.Conts, s.Errors, s.Params = nil, nil, nil, nil, nil, nil
	return s
}

// checkStates holds CoreAt of a program that is ok against what it is to answer, behind each of the first steps, some of the others, and the last ones. It tells where it stands.
func checkStates(t *testing.T, list []impl.ExpCore, each int) impl.CoreState {
	t.Helper()
	r := rerunOf(list)
	last := coreAtAgain(list, math.MaxInt)
	for {
		steps := r.s.Steps
		if steps <= each || steps > last.Steps-3 || steps%997 == 0 {
			if got := impl.CoreAt(list, steps); !sameStates(got, r.s) {
				t.Fatalf("%s\nbehind %d steps: %+v\nwant %+v", shownLines(list), steps, got, r.s)
			}
		}
		if r.s.Stop != 0 {
			break
		}
		r.step()
	}
	for _, more := range []int{last.Steps + 1, 5000, math.MaxInt} {
		if got := impl.CoreAt(list, more); more > last.Steps && !sameStates(got, last) {
			t.Fatalf("%s\nbehind %d steps: %+v\nwant %+v", shownLines(list), more, got, last)
		}
	}
	want := impl.CoreResult{Out: last.Out, Stop: last.Stop, Fault: last.Fault, Steps: last.Steps, Deepest: last.Deepest}
	if got := impl.CoreResultOf(list); got != want {
		t.Fatalf("%s\n%+v; want %+v", shownLines(list), got, want)
	}
	return last
}

func readOk(t *testing.T, text string) []impl.ExpCore {
	t.Helper()
	list, ok := impl.CoreRead(text)
	if !ok {
		t.Fatalf("%q is not read", text)
	}
	return list
}

// ran is a program, and what it shows and why it stands; Fault is what is raised.
type ran struct {
	text  string
	out   string
	stop  int
	fault string
}

func checkRuns(t *testing.T, all ...ran) {
	t.Helper()
	for _, c := range all {
		s := checkStates(t, readOk(t, c.text), 150)
		if s.Out != c.out || s.Stop != c.stop || s.Fault != c.fault {
			t.Errorf("%s\n%q, Stop %d, Fault %q; want %q, Stop %d, Fault %q", c.text, s.Out, s.Stop, s.Fault, c.out, c.stop, c.fault)
		}
	}
}

// shows is a program that is done.
func shows(text string, out string) ran { return ran{text, out, impl.StopDone, ""} }

// faults is one that shows nothing and stands of an error with this text, which nobody was told.
func faults(text string, fault string) ran {
	return ran{text, "", impl.StopError, "#<error " + fault + ">"}
}

func TestStopsAndLimits(t *testing.T) {
	if !slices.Equal([]int{impl.StopDone, impl.StopSteps, impl.StopRoom, impl.StopOut, impl.StopError, impl.StopStack}, []int{1, 2, 3, 4, 5, 6}) {
		t.Error("Stop")
	}
	if !slices.Equal([]int{impl.CoreMaxOut, impl.CoreMaxSteps, impl.CoreMaxRoom, impl.CoreMaxStack}, []int{2000, 5000, 3000, 300}) {
		t.Error("limits")
	}
}

// first is the state behind no step.
func first() impl.CoreState {
	return impl.CoreState{Mode: 3, Env: -1, Frame: -1, Wind: -1, Hand: -1, Bind: -1}
}

// Every field of the state, step by step, as the document's words say.
func TestCoreAtStepByStep(t *testing.T) {
	list := readOk(t, "((lambda (x) (+ x 1)) 4)")
	// The parts: 0 `+`, 1 `x`, 2 `1`, 3 (+ x 1), 4 (lambda ..), 5 `4`, 6 the call.
	frame := func(node int, env int, list ...impl.Val) impl.CoreFrame {
		return impl.CoreFrame{Kind: 3, Node: node, Env: env, Vals: list, Next: -1, Wind: -1, Hand: -1, Bind: -1, Deep: 1}
	}
	four, procedure := num("4"), placed(impl.ValClosure, 0)
	s := first()
	push := func(f impl.CoreFrame) {
		s.Frames = append(s.Frames, f)
		s.Frame = len(s.Frames) - 1
	}
	part := func(node int, env int) { s.Mode, s.Node, s.Env, s.Vals = 1, node, env, nil }
	give := func(list ...impl.Val) { s.Mode, s.Vals = 2, list }
	for steps, becomes := range []func(){
		func() {},
		func() { part(6, -1); s.Top = 1 },
		func() { part(4, -1); push(frame(6, -1)); s.Deepest = 1 },
		func() { give(procedure); s.Closures = []impl.CoreClosure{{Node: 4, Env: -1}} },
		func() { part(5, -1); push(frame(6, -1, procedure)) },
		func() { give(four) },
		func() {
			part(3, 0)
			s.Frame, s.Cells, s.Envs = -1, vals(four), []impl.CoreEnv{{Name: "x", Cell: 0, Next: -1}}
		},
		func() { part(0, 0); push(frame(3, 0)) },
		func() { give(prim("+")) },
		func() { part(1, 0); push(frame(3, 0, prim("+"))) },
		func() { give(four) },
		func() { part(2, 0); push(frame(3, 0, prim("+"), four)) },
		func() { give(num("1")) },
		func() { give(num("5")); s.Frame = -1 },
		func() { s.Mode, s.Vals = 3, nil },
		func() { s.Stop = impl.StopDone },
	} {
		becomes()
		s.Steps = steps
		if got := impl.CoreAt(list, steps); !sameAs(got, s) {
			t.Errorf("behind %d steps: %+v; want %+v", steps, got, s)
		}
	}
	for _, steps := range []int{16, 17, 5000, 5001, math.MaxInt} {
		if got := impl.CoreAt(list, steps); !sameAs(got, s) {
			t.Errorf("behind %d steps: %+v; want %+v", steps, got, s)
		}
	}
	for _, steps := range []int{-1, -5000, math.MinInt} {
		if got := impl.CoreAt(list, steps); !sameAs(got, first()) {
			t.Errorf("behind %d steps: %+v", steps, got)
		}
	}
	checkStates(t, list, 99)
}

func TestCoreAtOfNothing(t *testing.T) {
	want := first()
	want.Stop = impl.StopDone
	for _, list := range [][]impl.ExpCore{nil, {}, make([]impl.ExpCore, 0, 5)} {
		for _, steps := range []int{math.MinInt, -1, 0, 1, 5, 5000, math.MaxInt} {
			if got := impl.CoreAt(list, steps); !sameAs(got, want) {
				t.Errorf("behind %d steps: %+v", steps, got)
			}
		}
	}
}

// badPrograms has programs that are not ok.
func badPrograms() [][]impl.ExpCore {
	tooMany := slices.Repeat(parts(constant("1")), 2001)
	return [][]impl.ExpCore{
		{{}}, parts(constant("1"), impl.ExpCore{}), parts(constant("01")), parts(constant("x")), parts(constant("'(1 . (b))")), parts(constant("'")),
		parts(ref("")), parts(ref("1")), parts(ref("#x")), parts(ref("a b")), parts(lambda(names("a", "a"), ref("a"))), parts(lambda(nil)), parts(restLambda(nil, ref("a"))),
		parts(call()), parts(begin()), parts(choice(ref("a"))), parts(set("x")), parts(rec(nil, ref("a"))), parts(rec(names("a"), ref("a"))),
		parts(begin(define("x", constant("1")))), parts(nest(constant("1"), 101)), tooMany, parts(impl.ExpCore{Sort: 10}), parts(impl.ExpCore{Sort: -1}),
	}
}

func TestCoreAtOfWhatIsNotOk(t *testing.T) {
	for i, list := range badPrograms() {
		for _, steps := range []int{-1, 0, 1, 5, 5000} {
			if got := impl.CoreAt(list, steps); !sameAs(got, impl.CoreState{}) {
				t.Errorf("case %d: %+v", i, got)
			}
		}
		if got := impl.CoreResultOf(list); got != (impl.CoreResult{}) {
			t.Errorf("case %d: %+v", i, got)
		}
	}
	checkStates(t, slices.Repeat(parts(constant("1")), 2000), 20)
	checkStates(t, parts(nest(constant("1"), 100)), 300)
}

// The greatest program, and the deepest one.
func TestCoreAtOfTheLargest(t *testing.T) {
	deep := constant("1")
	for range 100 {
		deep = begin(deep, constant("2"))
	}
	s := checkStates(t, parts(deep), 400)
	if s.Stop != impl.StopDone || s.Deepest != 100 || len(s.Frames) != 100 {
		t.Errorf("%+v", s)
	}
}

// begins says whether a list begins with all of another one.
func begins[T comparable](list []T, with []T) bool {
	return len(list) >= len(with) && slices.Equal(list[:len(with)], with)
}

// All lists only become longer, and but for what cells and pairs have nothing in them becomes another; steps add up.
func TestCoreAtOnlyAdds(t *testing.T) {
	m := newRunMaker(151)
	for range 60 {
		list := m.program()
		was := impl.CoreAt(list, 0)
		for steps := 1; was.Stop == 0 && steps < 120; steps++ {
			is := impl.CoreAt(list, steps)
			adds := len(is.Frames) >= len(was.Frames) && sameFrames(is.Frames[:len(was.Frames)], was.Frames) &&
				begins(is.Envs, was.Envs) && begins(is.Globals, was.Globals) && begins(is.Closures, was.Closures) && begins(is.Winds, was.Winds) &&
				begins(is.Hands, was.Hands) && begins(is.Binds, was.Binds) && begins(is.Conts, was.Conts) && begins(is.Errors, was.Errors) &&
				begins(is.Params, was.Params) && len(is.Cells) >= len(was.Cells) && len(is.Pairs) >= len(was.Pairs)
			if !adds || is.Steps != was.Steps+1 || is.Deepest < was.Deepest || is.Top < was.Top || !strings.HasPrefix(is.Out, was.Out) {
				t.Fatalf("%s\nbehind %d steps: %+v; ahead of it %+v", shownLines(list), steps, is, was)
			}
			was = is
		}
	}
}

// Where the tests behind a step stand: deep, much is noted, many steps.

// padded has parts ahead of a program that take so many steps and note so much.
func padded(steps int, noted int, list ...impl.ExpCore) []impl.ExpCore {
	var all []impl.ExpCore
	for ; steps%3 != 0; steps -= 5 {
		all = append(all, call(ref("values"))) // It notes a frame.
		noted--
	}
	if noted > 0 {
		all = append(all, manyPairs(noted))
		steps -= 3
	}
	return append(append(all, slices.Repeat(parts(constant("1")), steps/3)...), list...)
}

// manyPairs is a constant of so many pairs.
func manyPairs(count int) impl.ExpCore {
	return constant("'(" + strings.TrimSuffix(strings.Repeat("1 ", count), " ") + ")")
}

func TestStopSteps(t *testing.T) {
	for _, c := range []struct{ steps, stop, last int }{
		{4990, impl.StopDone, 4994},
		{4995, impl.StopDone, 4999},
		{4996, impl.StopDone, 5000}, // Just met: but what the step does counts first.
		{4997, impl.StopSteps, 5000},
		{4998, impl.StopSteps, 5000},
		{4999, impl.StopSteps, 5000},
		{5000, impl.StopSteps, 5000},
		{5100, impl.StopSteps, 5000},
	} {
		list := padded(c.steps, 0, constant("2"))
		s := checkStates(t, list, 3)
		if s.Stop != c.stop || s.Steps != c.last || impl.CoreAt(list, 4993).Stop != 0 {
			t.Errorf("%d steps ahead: Stop %d, Steps %d; want %d, %d", c.steps, s.Stop, s.Steps, c.stop, c.last)
		}
	}
}

func TestStopRoom(t *testing.T) {
	for count, stop := range map[int]int{2999: impl.StopDone, 3000: impl.StopDone, 3001: impl.StopRoom, 5000: impl.StopRoom} {
		if s := checkStates(t, parts(manyPairs(count)), 9); s.Stop != stop || len(s.Pairs) != count {
			t.Errorf("%d pairs: Stop %d", count, s.Stop)
		}
	}
	// Of each list what is new is counted, but of Globals; and not the values.
	for _, text := range []string{
		"1", "car", "(lambda () 1)", "(define x 1)", "(begin 1 2 3)", "((lambda (a b . c) c) 1 2 3 4)", "(rec (a b) 1 2 a)", "(call/cc (lambda (k) (k 1)))",
		"(dynamic-wind (lambda () 1) (lambda () 2) (lambda () 3))", "(with-exception-handler car (lambda () 1))", "(with-parameter (make-parameter 1) 2 (lambda () 3))",
		"(make-parameter 1)", "(call/cc (lambda (k) (with-exception-handler k (lambda () (error \"bad\" 1 2)))))", "(call/cc (lambda (k) (with-exception-handler k car)))",
		"(cons 1 2)", "(list 1 2 3)", "(display 'a)", "(values 1 2)", "(if #f #f)",
	} {
		list := readOk(t, text)
		noted := noteAgain(coreAtAgain(list, 5000))
		for more, stop := range map[int]int{0: impl.StopDone, 1: impl.StopRoom} {
			if s := checkStates(t, append(slices.Clone(list), manyPairs(3000-noted+more)), 9); s.Stop != stop || noteAgain(s) != 3000+more {
				t.Errorf("%s: Stop %d with %d", text, s.Stop, noteAgain(s))
			}
		}
	}
}

// deepBegin is a part within so many frames, where it goes on with another one.
func deepBegin(deep int, inner impl.ExpCore) impl.ExpCore {
	for range deep {
		inner = begin(inner, constant("1"))
	}
	return inner
}

// deepCalls is a program of procedures, which does a part within so many frames, and goes no deeper.
func deepCalls(deep int, inner impl.ExpCore) []impl.ExpCore {
	list := parts(define("f0", lambda(nil, deepBegin(deep%90, inner))))
	for i := range deep / 90 {
		list = append(list, define("f"+strconv.Itoa(i+1), lambda(nil, deepBegin(90, call(ref("f"+strconv.Itoa(i)))))))
	}
	return append(list, call(ref("f"+strconv.Itoa(deep/90))))
}

func TestStopStack(t *testing.T) {
	for deep, stop := range map[int]int{298: impl.StopDone, 299: impl.StopDone, 300: impl.StopDone, 301: impl.StopStack, 302: impl.StopStack, 390: impl.StopStack} {
		s := checkStates(t, deepCalls(deep, constant("1")), 9)
		if s.Stop != stop || s.Deepest != min(deep, 301) {
			t.Errorf("%d deep: Stop %d, Deepest %d", deep, s.Stop, s.Deepest)
		}
	}
}

// Of what is met in one step the first counts: how deep, then what is noted, then steps.
func TestStopsInOrder(t *testing.T) {
	core := readOk(t, "(define f (lambda () (begin (f) 1))) (f)")
	for _, c := range []struct{ deepest, noted, steps, stop int }{
		{301, 3001, 5000, impl.StopStack},
		{301, 3001, 4999, impl.StopStack},
		{301, 3000, 5000, impl.StopStack},
		{301, 2000, 4000, impl.StopStack},
		{300, 3001, 5000, impl.StopRoom},
		{300, 3001, 4999, impl.StopRoom},
		{300, 3001, 4000, impl.StopRoom},
		{300, 3000, 5000, impl.StopSteps},
		{299, 2000, 5000, impl.StopSteps},
	} {
		alone := rerunOf(core)
		for alone.s.Deepest < c.deepest {
			alone.step()
		}
		s := checkStates(t, padded(c.steps-alone.s.Steps, c.noted-noteAgain(alone.s), core...), 3)
		if s.Stop != c.stop || s.Deepest != c.deepest || noteAgain(s) != c.noted || s.Steps != c.steps {
			t.Errorf("%+v: Stop %d, Deepest %d, %d noted, Steps %d", c, s.Stop, s.Deepest, noteAgain(s), s.Steps)
		}
	}
}

// What a step sets stays, though all three limits are gone beyond in it.
func TestStopsThatStay(t *testing.T) {
	long := strings.Repeat("x", 58)
	for _, c := range []struct {
		text                string
		deepest, stop, more int
	}{
		{"(car 1)", 1, impl.StopError, 1},
		{"(raise 1)", 1, impl.StopError, 0},
		{"(error \"a\" 1)", 1, impl.StopError, 2},
		{"nobody", 0, impl.StopError, 1},
		{"((lambda (l) (begin (set-cdr! l l) (display l))) (list 1))", 2, impl.StopOut, 0},
		{"((lambda (l) (begin (set-cdr! l l) (equal? l l))) (list 1))", 2, impl.StopOut, 0},
		{"(display '(" + strings.TrimSuffix(strings.Repeat("\""+long+"\" ", 40), " ") + "))", 1, impl.StopOut, 0},
	} {
		core := readOk(t, c.text)
		alone := coreAtAgain(core, math.MaxInt)
		for _, noted := range []int{3000 + c.more, 2500} {
			s := checkStates(t, padded(5000-alone.Steps, noted-noteAgain(alone), core...), 3)
			if s.Stop != c.stop || s.Steps != 5000 || s.Deepest != c.deepest || noteAgain(s) != noted {
				t.Errorf("%s: Stop %d, Deepest %d, %d noted, Steps %d", c.text, s.Stop, s.Deepest, noteAgain(s), s.Steps)
			}
		}
	}
	// Of two handlers that raise again a frame each is pushed in one step.
	for more, stop := range map[int]int{0: impl.StopError, 1: impl.StopError, 2: impl.StopStack} {
		inner := readOk(t, "(with-exception-handler raise (lambda () (with-exception-handler raise (lambda () (raise 1)))))")[0]
		s := checkStates(t, deepCalls(296+more, inner), 3)
		if s.Stop != stop || s.Deepest != min(300+more, 301) || stop == impl.StopError && s.Fault != "1" {
			t.Errorf("%d more: Stop %d, Deepest %d, Fault %q", more, s.Stop, s.Deepest, s.Fault)
		}
	}
}

// Mode 1: parts.

func TestPartsGive(t *testing.T) {
	checkRuns(t,
		shows("", ""), shows("1", ""), shows("car", ""), shows("'(a)", ""), shows("(lambda () nobody)", ""),
		shows("(display 7)", "7"), shows("(display -1/2)", "-1/2"), shows("(display #t)", "#t"), shows("(display #f)", "#f"),
		shows(`(display "a (b")`, "a (b"), shows(`(display "")`, ""), shows("(display 'name)", "name"), shows("(display '())", "()"),
		shows(`(display '(1 #t "s" a () (b)))`, "(1 #t s a () (b))"), shows("(display '(a . b))", "(a . b)"), shows("(display '(1 (2 . 3) . 4))", "(1 (2 . 3) . 4)"),
		shows("(display ''a)", "(quote a)"), shows("(display '(#f . #t))", "(#f . #t)"), shows(`(display '(a . "b c"))`, "(a . b c)"), shows("(display '((((1)))))", "((((1))))"),
		shows(`(display (list (symbol? 'a) (symbol? "a") (number? 1) (number? '1) (symbol? '+1) (null? '()) (pair? '(1)) (eq? #t '#t) (eq? 'a 'a)))`, "(#t #f #t #t #t #t #t #t #t)"),
		shows("(display (list (car '(1 2)) (car (cdr '(1 2))) (symbol? (car '(x))) (number? (car '(1))) (eq? (car '(#f)) #f)))", "(1 2 #t #t #t)"),
		// Of a quoted list pairs are made anew each time.
		shows("(define f (lambda () '(1))) (display (list (eq? (f) (f)) (equal? (f) (f)))) (set-car! (f) 2) (display (f))", "(#f #t)(1)"),
		shows("(display (list car apply call/cc))", "(#<procedure> #<procedure> #<procedure>)"), shows("(display (lambda (x) x))", "#<procedure>"),
		shows("(display (list (eq? car car) (eq? car cdr) (procedure? raise)))", "(#t #f #t)"),
		shows("(begin (display 1))", "1"), shows("(begin (display 1) (display 2) (display 3))", "123"), shows("(display (begin 1 2 3))", "3"),
		shows("(if #f 1)", ""), shows("(display (if #f 1))", "#<none>"), shows("(display (if #t 1))", "1"), shows("(display (if #t 1 2))", "1"), shows("(display (if #f 1 2))", "2"),
		shows(`(display (list (if 0 1 2) (if '() 1 2) (if "" 1 2) (if 'f 1 2) (if (if #f #f) 1 2) (if car 1 2) (if (not 1) 1 2)))`, "(1 1 1 1 1 1 2)"),
	)
}

// The pairs of a constant, in the order in which they are new: what it ends in first, then from behind, each part's own ones ahead.
func TestConstantsMakePairs(t *testing.T) {
	pair := func(at int) impl.Val { return placed(impl.ValPair, at) }
	for _, c := range []struct {
		text  string
		want  impl.Val
		pairs []impl.CorePair
	}{
		{"1", num("1"), nil}, {"-2/3", num("-2/3"), nil}, {"#t", yes, nil}, {"#f", no, nil}, {`"a'b"`, str("a'b"), nil}, {`""`, str(""), nil}, {`"1"`, str("1"), nil}, {`"#t"`, str("#t"), nil},
		{"'a", sym("a"), nil}, {"'quote", sym("quote"), nil}, {"'1.5", sym("1.5"), nil}, {"'()", null, nil},
		{"'(1)", pair(0), []impl.CorePair{{Car: num("1"), Cdr: null}}},
		{`'("" . #f)`, pair(0), []impl.CorePair{{Car: str(""), Cdr: no}}},
		{"'(1 2 3)", pair(2), []impl.CorePair{{Car: num("3"), Cdr: null}, {Car: num("2"), Cdr: pair(0)}, {Car: num("1"), Cdr: pair(1)}}},
		{"'(1 2 . c)", pair(1), []impl.CorePair{{Car: num("2"), Cdr: sym("c")}, {Car: num("1"), Cdr: pair(0)}}},
		{"'((a b) (c . d) . e)", pair(4), []impl.CorePair{
			{Car: sym("c"), Cdr: sym("d")}, {Car: pair(0), Cdr: sym("e")}, {Car: sym("b"), Cdr: null}, {Car: sym("a"), Cdr: pair(2)}, {Car: pair(3), Cdr: pair(1)},
		}},
		{"'(() ((x)))", pair(3), []impl.CorePair{{Car: sym("x"), Cdr: null}, {Car: pair(0), Cdr: null}, {Car: pair(1), Cdr: null}, {Car: null, Cdr: pair(2)}}},
	} {
		s := impl.CoreAt(parts(constant(c.text)), 2)
		if s.Mode != 2 || !slices.Equal(s.Vals, vals(c.want)) || !slices.Equal(s.Pairs, c.pairs) || s.Node != 0 || s.Env != -1 {
			t.Errorf("%s: %+v", c.text, s)
		}
		checkStates(t, parts(constant(c.text), constant(c.text)), 99)
	}
	checkStates(t, parts(constant("'"+around("(", 100, "()", ")"))), 9)
}

func TestNamesGive(t *testing.T) {
	checkRuns(t,
		shows("((lambda (x) (display x)) 1)", "1"), shows("((lambda (x) ((lambda (x) (display x)) 2)) 1)", "2"), shows("(((lambda (x) (lambda (y) (display (list x y)))) 1) 2)", "(1 2)"),
		shows("((lambda (x) (begin ((lambda (x) x) 2) (display x))) 1)", "1"),
		shows("(define x 1) (display x) ((lambda (x) (display x)) 2) (display x)", "121"), shows("(define x 1) (define x 2) (display x)", "2"), shows("(define x 1) (define y x) (define x 2) (display (list x y))", "(2 1)"),
		shows("(define car 5) (display car)", "5"), shows("(define car cdr) (display (car '(1 2)))", "(2)"), shows("((lambda (car) (display car)) 5)", "5"), shows("(rec (list) 1 (display list))", "1"),
		shows("(define f (lambda () (g))) (define g (lambda () 7)) (display (f))", "7"),
		shows("(rec (a b) 1 (+ a 1) (display (list a b)))", "(1 2)"), shows("(rec (f) (lambda () f) (display (eq? f (f))))", "#t"), shows("(define a 1) (rec (a b) 2 a (display b))", "2"),
		shows("((lambda (x) (rec (x) 2 (display x))) 1)", "2"),
		shows("(define f (lambda (n) (lambda () (begin (set! n (+ n 1)) n)))) (define g (f 0)) (define h (f 5)) (begin (g) (g) (display (list (g) (h))))", "(3 6)"),
		faults("nobody", "unbound nobody"), faults("(nobody 1)", "unbound nobody"), faults("((lambda (x) y) 1)", "unbound y"), faults("(define x x)", "unbound x"), faults("'a b", "unbound b"), faults("else", "unbound else"),
		faults("(rec (a) a 1)", "not yet"), faults("(rec (a b) b 1 a)", "not yet"), faults("(define car 1) (rec (car) (car '(1)) 2)", "not yet"), faults("(define x 1) (rec (x) x 2)", "not yet"), faults("(rec (a) (+ 1 a) 1)", "not yet"),
		faults("(define g (lambda () x)) (rec (x) (g) 1)", "unbound x"),
	)
}

// The cells and Envs of a CoreRec, in order, and its frames.
func TestRecStepByStep(t *testing.T) {
	list := readOk(t, "(rec (a b) 1 2 a)") // 0 `1`, 1 `2`, 2 `a`, 3 the rec.
	frame := impl.CoreFrame{Kind: 6, Node: 3, Env: 1, Next: -1, Wind: -1, Hand: -1, Bind: -1, Deep: 1}
	want := first()
	want.Mode, want.Node, want.Env, want.Frame, want.Top, want.Steps, want.Deepest = 1, 0, 1, 0, 1, 2, 1
	want.Cells, want.Envs = make([]impl.Val, 2), []impl.CoreEnv{{Name: "a", Cell: 0, Next: -1}, {Name: "b", Cell: 1, Next: 0}}
	want.Frames = []impl.CoreFrame{frame}
	if got := impl.CoreAt(list, 2); !sameAs(got, want) {
		t.Errorf("%+v; want %+v", got, want)
	}
	second := frame
	second.At = 1
	want.Node, want.Frame, want.Steps, want.Cells, want.Frames = 1, 1, 4, vals(num("1"), impl.Val{}), []impl.CoreFrame{frame, second}
	if got := impl.CoreAt(list, 4); !sameAs(got, want) {
		t.Errorf("%+v; want %+v", got, want)
	}
	want.Node, want.Frame, want.Steps, want.Cells = 2, -1, 6, numbers("1", "2")
	if got := impl.CoreAt(list, 6); !sameAs(got, want) {
		t.Errorf("%+v; want %+v", got, want)
	}
	s := checkStates(t, readOk(t, "((lambda (x) (rec (x y x.1) 1 2 3 (list x y x.1))) 0)"), 99)
	if !slices.Equal(s.Envs, []impl.CoreEnv{{Name: "x", Cell: 0, Next: -1}, {Name: "x", Cell: 1, Next: 0}, {Name: "y", Cell: 2, Next: 1}, {Name: "x.1", Cell: 3, Next: 2}}) || !slices.Equal(s.Cells, numbers("0", "1", "2", "3")) {
		t.Errorf("%+v", s)
	}
}

// Mode 2: frames.

func TestNotOneValue(t *testing.T) {
	for _, none := range []string{"(values)", "(values 1 2)", "(values #f #f)", "(apply values '(1 2 3))"} {
		checkRuns(t,
			faults("(if "+none+" (display 1) (display 2))", "not one value"),
			faults("("+none+" 1)", "not one value"), faults("(list 1 "+none+" 2)", "not one value"), faults("(list "+none+")", "not one value"),
			faults("(define x 1) (set! x "+none+")", "not one value"), faults("(set! x "+none+")", "not one value"), faults("(define x "+none+")", "not one value"),
			faults("(rec (a) "+none+" 1)", "not one value"), faults("(rec (a b) 1 "+none+" 1)", "not one value"),
			// The second of a CoreBegin takes any, and so does the whole.
			shows("(begin "+none+" (display 1))", "1"), shows("(begin 1 "+none+" (display 1))", "1"), shows("(begin 1 "+none+")", ""), shows(none+" (display 1)", "1"), shows("(rec (a) 1 "+none+")", ""),
			// What it was to do is off, and so one is where it was pushed.
			shows("(display (call/cc (lambda (k) (with-exception-handler (lambda (e) (k (error-text e))) (lambda () (+ 1 "+none+"))))))", "not one value"),
		)
	}
	checkRuns(t, shows("(begin (if (values 1) (display (+ (values 2) 1))) (display (call/cc (lambda (k) (k 5)))))", "35"))
}

func TestSetAndDefine(t *testing.T) {
	checkRuns(t,
		shows("((lambda (x) (begin (set! x 2) (display x))) 1)", "2"), shows("((lambda (x) (begin ((lambda (x) (set! x 2)) 3) (display x))) 1)", "1"), shows("((lambda (x) (begin ((lambda (y) (set! x y)) 3) (display x))) 1)", "3"),
		shows("(define x 1) (set! x 2) (display x)", "2"), shows("(define x 1) ((lambda (x) (set! x 3)) 2) (display x)", "1"), shows("(define x 1) ((lambda (y) (set! x y)) 2) (display x)", "2"),
		shows("((lambda (x) (display (set! x 2))) 1)", "#<none>"), shows("(rec (a) (begin (set! a 1) (display a) 2) (display a))", "12"), shows("(rec (a b) (set! b 1) (begin (display b) 3) (display (list a b)))", "1(#<none> 3)"),
		shows("(define f (lambda () x)) (define x 1) (set! x (+ (f) 1)) (display (f))", "2"),
		faults("(set! x 1)", "unbound x"), faults("(set! car 1)", "unbound car"), faults("((lambda (x) (set! y x)) 1)", "unbound y"), faults("(set! x (car 1))", "wrong value for car"), faults("(begin ((lambda (x) 1) 2) (set! x 3))", "unbound x"),
	)
	s := checkStates(t, readOk(t, "(define x 1) (define y 2) (define x 3) (set! y 4) ((lambda (z) (set! z 5)) 0)"), 99)
	if !slices.Equal(s.Globals, []impl.CoreEnv{{Name: "x", Cell: 0, Next: -1}, {Name: "y", Cell: 1, Next: -1}}) || !slices.Equal(s.Cells, numbers("3", "4", "5")) {
		t.Errorf("%+v", s)
	}
	for steps, want := range map[int][]impl.Val{3: numbers("1"), 4: vals(none)} {
		if got := impl.CoreAt(readOk(t, "(define x 1)"), steps); got.Mode != 2 || !slices.Equal(got.Vals, want) {
			t.Errorf("behind %d steps: %+v", steps, got)
		}
	}
}

// withinAll is a program in which a part is done within a parameter, a handler and a dynamic-wind, where two names are known.
func withinAll(text string) string {
	return "(with-parameter (make-parameter 0) 9 (lambda () (with-exception-handler car (lambda () (dynamic-wind list (lambda () ((lambda (u v) " + text + ") 1 2)) list)))))"
}

// nodeOf is the place of the first part that is shown so.
func nodeOf(t *testing.T, list []impl.ExpCore, text string) int {
	t.Helper()
	place, found := 0, -1
	eachPart(list, func(c *impl.ExpCore) {
		if found < 0 && impl.ExpCoreShow(*c) == text {
			found = place
		}
		place++
	})
	if found < 0 {
		t.Fatalf("there is no %s", text)
	}
	return found
}

// What a frame of each kind keeps.
func TestFramesKeep(t *testing.T) {
	list := prim("list")
	for _, c := range []struct {
		text   string
		kind   int
		of     string // The part that is Node, if any.
		node   int    // Node, if it is no part.
		env    int
		at     int
		vals   []impl.Val
		deeper bool // It is within one more dynamic-wind.
	}{
		{text: "(if #t 1)", kind: 1, of: "(if #t 1)", env: 1},
		{text: "(begin 1 2 3)", kind: 2, of: "(begin 1 2 3)", env: 1},
		{text: "(begin 1 2 3)", kind: 2, of: "(begin 1 2 3)", env: 1, at: 1},
		{text: "(list 3 4)", kind: 3, of: "(list 3 4)", env: 1},
		{text: "(list 3 4)", kind: 3, of: "(list 3 4)", env: 1, vals: vals(list)},
		{text: "(list 3 4)", kind: 3, of: "(list 3 4)", env: 1, vals: vals(list, num("3"))},
		{text: "(set! v 3)", kind: 4, of: "(set! v 3)", env: 1},
		{text: "(rec (a b) 3 4 5)", kind: 6, of: "(rec (a b) 3 4 5)", env: 3},
		{text: "(rec (a b) 3 4 5)", kind: 6, of: "(rec (a b) 3 4 5)", env: 3, at: 1},
		{text: "(call-with-values values list)", kind: 7, vals: vals(list)},
		{text: "(dynamic-wind list values newline)", kind: 8, vals: vals(list, prim("values"), prim("newline"))},
		{text: "(dynamic-wind list values newline)", kind: 9, vals: vals(prim("newline"))},
		{text: "(dynamic-wind list (lambda () (values 3 4)) list)", kind: 10, vals: numbers("3", "4")},
		{text: "(dynamic-wind list values list)", kind: 10},
		{text: "(call/cc (lambda (k) (dynamic-wind list (lambda () (k 7)) list)))", kind: 11, node: -1, vals: numbers("7"), deeper: true},
		{text: "((lambda (f) (f 8)) (dynamic-wind list (lambda () (call/cc (lambda (k) k))) list))", kind: 11, node: 1, vals: numbers("8")},
		{text: "((lambda (x) (call/cc (lambda (k) (dynamic-wind list k list)))) (call/cc values))", kind: 11, node: -1, at: 1, deeper: true},
		{text: "(raise 3)", kind: 12},
		{text: "(error \"a\" 1)", kind: 12},
		{text: "(car 3)", kind: 12},
		{text: "(raise-continuable '(3))", kind: 13},
		{text: "(with-exception-handler cdr list)", kind: 13},
		{text: "(with-parameter (make-parameter 1) 2 list)", kind: 13},
	} {
		program := readOk(t, withinAll(c.text))
		s := checkStates(t, program, 200)
		var around []int
		for place, f := range s.Frames {
			if f.Kind == 9 {
				around = append(around, place)
			}
		}
		want := impl.CoreFrame{Kind: c.kind, Node: c.node, Env: c.env, At: c.at, Vals: c.vals, Next: around[0], Deep: 4}
		if c.of != "" {
			want.Node = nodeOf(t, program, c.of)
		}
		if c.deeper {
			want.Next, want.Deep = around[1], 5
		}
		if !slices.ContainsFunc(s.Frames, func(f impl.CoreFrame) bool { return sameFrames([]impl.CoreFrame{f}, []impl.CoreFrame{want}) }) {
			t.Errorf("%s: there is no %+v in %+v", c.text, want, s.Frames)
		}
	}
	// That of a CoreDefine, around which there is nothing.
	s := impl.CoreAt(readOk(t, "1 (define x 2)"), 5)
	if want := (impl.CoreFrame{Kind: 5, Node: 2, Env: -1, Next: -1, Wind: -1, Hand: -1, Bind: -1, Deep: 1}); !sameFrames(s.Frames, []impl.CoreFrame{want}) {
		t.Errorf("%+v", s.Frames)
	}
}

// What else is new, and what it keeps.
func TestWhatIsNew(t *testing.T) {
	closure := func(at int) impl.Val { return placed(impl.ValClosure, at) }
	s := checkStates(t, readOk(t, withinAll("(dynamic-wind list (lambda () (with-exception-handler cdr (lambda () (with-parameter (make-parameter 3) 4 (lambda () (call/cc (lambda (k) (error \"a\" 5 6)))))))) values)")), 300)
	if !slices.Equal(s.Winds, []impl.CoreWind{{Before: prim("list"), After: prim("list"), Next: -1}, {Before: prim("list"), After: prim("values"), Next: 0}}) {
		t.Errorf("%+v", s.Winds)
	}
	if !slices.Equal(s.Hands, []impl.CoreHand{{Proc: prim("car"), Next: -1}, {Proc: prim("cdr"), Next: 0}}) {
		t.Errorf("%+v", s.Hands)
	}
	if !slices.Equal(s.Binds, []impl.CoreBind{{Param: 0, Value: num("9"), Next: -1}, {Param: 1, Value: num("4"), Next: 0}}) || !slices.Equal(s.Params, numbers("0", "3")) {
		t.Errorf("%+v %+v", s.Binds, s.Params)
	}
	last := slices.IndexFunc(s.Frames, func(f impl.CoreFrame) bool { return f.Kind == 13 && f.Deep == 6 })
	if !slices.Equal(s.Conts, []impl.CoreCont{{Frame: last, Wind: 1, Hand: 1, Bind: 1}}) {
		t.Errorf("%+v, want Frame %d", s.Conts, last)
	}
	// The error that is told first, and those of the handlers, which take a pair.
	five, six := impl.CorePair{Car: num("5"), Cdr: placed(impl.ValPair, 0)}, impl.CorePair{Car: num("6"), Cdr: null}
	if !slices.Equal(s.Errors, []impl.CoreErr{{Text: "a", List: placed(impl.ValPair, 1)}, {Text: "wrong value for cdr", List: null}, {Text: "wrong value for car", List: null}}) || !slices.Equal(s.Pairs, []impl.CorePair{six, five}) {
		t.Errorf("%+v %+v", s.Errors, s.Pairs)
	}
	// A procedure with a rest: cells and Envs for each name in order, and the list of all others.
	s = checkStates(t, readOk(t, "((lambda (z) ((lambda (a b . c) (lambda () a)) 1 2 3 4)) 0)"), 99)
	if !slices.Equal(s.Envs, []impl.CoreEnv{{Name: "z", Cell: 0, Next: -1}, {Name: "a", Cell: 1, Next: 0}, {Name: "b", Cell: 2, Next: 1}, {Name: "c", Cell: 3, Next: 2}}) ||
		!slices.Equal(s.Cells, append(numbers("0", "1", "2"), placed(impl.ValPair, 1))) || !slices.Equal(s.Pairs, []impl.CorePair{{Car: num("4"), Cdr: null}, {Car: num("3"), Cdr: placed(impl.ValPair, 0)}}) {
		t.Errorf("%+v", s)
	}
	if len(s.Closures) != 3 || s.Closures[2].Env != 3 || s.Closures[0].Env != -1 || s.Closures[1].Env != 0 {
		t.Errorf("%+v", s.Closures)
	}
	s = impl.CoreAt(readOk(t, "(call/cc (lambda (k) k))"), 6)
	if !slices.Equal(s.Conts, []impl.CoreCont{{Frame: -1, Wind: -1, Hand: -1, Bind: -1}}) || !slices.Equal(s.Cells, vals(placed(impl.ValCont, 0))) || s.Mode != 1 || len(s.Vals) != 0 {
		t.Errorf("%+v", s)
	}
	s = impl.CoreAt(readOk(t, "(list (lambda () 1) (lambda () 2))"), 7)
	if !slices.Equal(s.Vals, vals(closure(1))) {
		t.Errorf("%+v", s)
	}
}

// Calls.

func TestCallsOfClosures(t *testing.T) {
	wrong := "wrong number for a procedure"
	checkRuns(t,
		shows("(display ((lambda () 1)))", "1"), faults("((lambda () 1) 2)", wrong), faults("((lambda () 1) 2 3)", wrong),
		shows("(display ((lambda (a) a) 1))", "1"), faults("((lambda (a) a))", wrong), faults("((lambda (a) a) 1 2)", wrong),
		shows("(display ((lambda (a b c) (list c b a)) 1 2 3))", "(3 2 1)"), faults("((lambda (a b c) a) 1 2)", wrong), faults("((lambda (a b c) a) 1 2 3 4)", wrong),
		shows("(display ((lambda (. r) r)))", "()"), shows("(display ((lambda (. r) r) 1))", "(1)"), shows("(display ((lambda (. r) r) 1 2 3))", "(1 2 3)"),
		shows("(display ((lambda (a . r) (list r a)) 1))", "(() 1)"), shows("(display ((lambda (a . r) (list r a)) 1 2 3))", "((2 3) 1)"), faults("((lambda (a . r) r))", wrong),
		shows("(display ((lambda (a b . r) (list r b a)) 1 2))", "(() 2 1)"), faults("((lambda (a b . r) r) 1)", wrong), faults("((lambda (a b . r) r))", wrong),
		// What is called is known first, then the values from the left.
		shows("((begin (display 1) list) (display 2) (display 3))", "123"), shows("(display ((begin list) (values 1) ((lambda (x) x) 2)))", "(1 2)"),
		shows("(define f (lambda (n) (if (= n 0) 0 (+ n (f (- n 1)))))) (display (f 10))", "55"),
	)
	// More values than any of what is given takes.
	hundred := "'(" + strings.TrimSuffix(strings.Repeat("1 ", 100), " ") + ")"
	checkRuns(t,
		shows("(display (apply + (apply (lambda (a . r) r) "+hundred+")))", "99"),
		faults("(apply + "+hundred+")", "wrong number for +"), faults("(apply values "+hundred+")", "wrong number for values"), faults("(apply error "+hundred+")", "wrong number for error"),
		faults("(apply (lambda () 1) "+hundred+")", wrong), faults("(apply car "+hundred+")", "wrong number for car"), faults("(apply 5 "+hundred+")", "not a procedure"),
	)
}

func TestCallsOfOthers(t *testing.T) {
	checkRuns(t,
		shows("(display (+ 1 (call/cc (lambda (k) (+ 10 (k 2))))))", "3"), shows("(display (+ 1 (call/cc (lambda (k) 2))))", "3"), shows("(call-with-values (lambda () (call/cc (lambda (k) (k 1 2 3)))) (lambda (. r) (display r)))", "(1 2 3)"),
		shows("(call-with-values (lambda () (call/cc (lambda (k) (k)))) (lambda (. r) (display r)))", "()"), faults("(+ 1 (call/cc (lambda (k) (k))))", "not one value"), shows("(begin (call/cc (lambda (k) (k 1 2))) (display 3))", "3"),
		shows("(define p (make-parameter 1)) (display (p))", "1"), faults("((make-parameter 1) 2)", "wrong number for a parameter"), faults("((make-parameter 1) 2 3)", "wrong number for a parameter"),
		shows("(define p (make-parameter 1)) (define q (make-parameter 2)) (with-parameter p 3 (lambda () (with-parameter q 4 (lambda () (with-parameter p 5 (lambda () (display (list (p) (q))))))))) (display (list (p) (q)))", "(5 4)(1 2)"),
		shows("(define p (make-parameter 1)) (with-parameter p 2 (lambda () (begin (with-parameter p 3 (lambda () (display (p)))) (display (p)))))", "32"),
		shows("(define p (make-parameter 1)) (define f (lambda () (p))) (display (list (f) (with-parameter p 2 f) (with-parameter p 2 p) (f)))", "(1 2 2 1)"),
		faults("(5)", "not a procedure"), faults("(5 6)", "not a procedure"), faults("(\"car\" 6)", "not a procedure"), faults("('car '(1))", "not a procedure"), faults("('(1) 2)", "not a procedure"), faults("('())", "not a procedure"), faults("(#t)", "not a procedure"),
		faults("((if #f #f))", "not a procedure"), faults("((list car))", "not a procedure"), faults("((call/cc (lambda (k) (with-exception-handler k (lambda () (error \"e\"))))))", "not a procedure"),
		faults("(nobody (car 1))", "unbound nobody"), faults("(5 (car 1))", "wrong value for car"),
	)
}

// What is given, by name: with as many values as it takes, one fewer and one more.
func TestCallsOfGivenNumbers(t *testing.T) {
	for _, all := range []map[string][2]int{plainTakes, callerTakes} {
		for name, takes := range all {
			for _, count := range []int{takes[0] - 1, takes[1] + 1} {
				if count >= 0 {
					checkRuns(t, faults("("+name+strings.Repeat(" 1", count)+")", "wrong number for "+name))
				}
			}
			for _, count := range []int{takes[0], takes[1]} {
				s := checkStates(t, readOk(t, "("+name+strings.Repeat(" 1", count)+")"), 0)
				if strings.Contains(s.Fault, "wrong number") {
					t.Errorf("%s of %d: %s", name, count, s.Fault)
				}
			}
		}
	}
}

func TestCallsOfGivenValues(t *testing.T) {
	big := strings.Repeat("9", 60)
	checkRuns(t,
		shows("(display (list (+) (+ 1 2) (- 5) (- 5 1 1) (*) (* 2 3) (/ 2) (/ 6 4) (quotient -7 2) (modulo -7 2)))", "(0 3 -5 3 1 6 1/2 3/2 -3 1)"), shows("(display (list (= 1 1 1) (< 1 2 3) (= 1 2) (< 2 1)))", "(#t #t #f #f)"),
		shows("(define l (list 1 2)) (begin (set-car! l 3) (set-cdr! (cdr l) 4) (display l))", "(3 2 . 4)"), shows("(display (equal? '(1 (2)) (list 1 (list 2))))", "#t"),
		shows("(begin (display 1) (newline) (display (display 2)))", "1\n2#<none>"),
		faults("(+ "+big+" 1)", "too big for +"), faults("(- -"+big+" 1)", "too big for -"), faults("(* "+big+" 2)", "too big for *"), faults("(/ 1/"+big+" 2)", "too big for /"), faults("(+ "+big+" 1 'a)", "wrong value for +"),
		faults("(+ 'a)", "wrong value for +"), faults("(- \"1\")", "wrong value for -"), faults("(* #t)", "wrong value for *"), faults("(/ 0)", "wrong value for /"), faults("(/ 1 0)", "wrong value for /"), faults("(= 1 'a)", "wrong value for ="), faults("(< 2 1 'a)", "wrong value for <"),
		faults("(quotient 1 0)", "wrong value for quotient"), faults("(quotient 1/2 1)", "wrong value for quotient"), faults("(modulo 1 0)", "wrong value for modulo"), faults("(modulo 1 1/2)", "wrong value for modulo"),
		faults("(car '())", "wrong value for car"), faults("(cdr 1)", "wrong value for cdr"), faults("(set-car! '() 1)", "wrong value for set-car!"), faults("(set-cdr! 'a 1)", "wrong value for set-cdr!"),
		faults("(error-text 1)", "wrong value for error-text"), faults("(error-list \"a\")", "wrong value for error-list"), faults("(error 'a)", "wrong value for error"), faults("(error 1 \"a\")", "wrong value for error"), faults("(error '(\"a\"))", "wrong value for error"),
		faults("(with-parameter car 1 (lambda () 2))", "wrong value for with-parameter"), faults("(with-parameter 1 1 1)", "wrong value for with-parameter"), faults("(with-parameter (lambda () 1) 1 (lambda () 2))", "wrong value for with-parameter"),
		faults("(with-parameter (make-parameter 1) 2 3)", "not a procedure"), faults("(with-parameter (make-parameter 1) 2 (lambda (x) 3))", "wrong number for a procedure"),
		faults("(call/cc 5)", "not a procedure"), faults("(call/cc (lambda () 5))", "wrong number for a procedure"), faults("(call-with-values 5 list)", "not a procedure"), faults("(call-with-values list 5)", "not a procedure"), faults("(call-with-values list car)", "wrong value for car"),
		faults("(call-with-values values (lambda (x) x))", "wrong number for a procedure"), faults("(dynamic-wind 1 list list)", "not a procedure"), faults("(dynamic-wind list 1 list)", "not a procedure"), faults("(dynamic-wind list list 1)", "not a procedure"), faults("(dynamic-wind car list list)", "wrong number for car"),
		shows("(display (call/cc procedure?))", "#t"), shows("(display (call/cc call/cc))", "#<procedure>"), shows("(call-with-values (lambda () (values 1 2)) (lambda (. r) (display r)))", "(1 2)"), shows("(display (call-with-values values list))", "()"),
		shows("(display (call-with-values (lambda () 5) -))", "-5"), shows("(display (values 1))", "1"), shows("(call-with-values (lambda () (dynamic-wind list (lambda () (values 1 2)) list)) (lambda (. r) (display r)))", "(1 2)"),
	)
	// What was noted ahead of a fail stays, and no more.
	s := checkStates(t, readOk(t, "(apply error '(a 1 2))"), 20)
	if len(s.Pairs) != 3 || !slices.Equal(s.Errors, []impl.CoreErr{{Text: "wrong value for error", List: null}}) || len(s.Binds)+len(s.Hands)+len(s.Winds) != 0 {
		t.Errorf("%+v", s)
	}
	s = checkStates(t, readOk(t, "(with-parameter 1 2 list)"), 20)
	if len(s.Binds) != 0 || slices.ContainsFunc(s.Frames, func(f impl.CoreFrame) bool { return f.Kind == 13 }) {
		t.Errorf("%+v", s)
	}
}

func TestApply(t *testing.T) {
	listOf := func(count int) string { return "'(" + strings.TrimSuffix(strings.Repeat("1 ", count), " ") + ")" }
	wrong := "wrong value for apply"
	checkRuns(t,
		shows("(display (apply + '()))", "0"), shows("(display (apply + '(1 2 3)))", "6"), shows("(display (apply list '((a) b)))", "((a) b)"), shows("(apply display '(a))", "a"), shows("(display (apply (lambda (a . r) r) "+listOf(99)+"))", "("+strings.TrimSuffix(strings.Repeat("1 ", 98), " ")+")"),
		shows("(display (apply + (apply (lambda (a . r) r) "+listOf(100)+")))", "99"), faults("(apply (lambda (. r) r) "+listOf(101)+")", wrong), faults("(apply (lambda (. r) r) "+listOf(2000)+")", wrong), shows("(display (apply + "+listOf(99)+"))", "99"),
		faults("(apply + 1)", wrong), faults("(apply + 'a)", wrong), faults("(apply + \"\")", wrong), faults("(apply + #f)", wrong), faults("(apply + car)", wrong), faults("(apply + '(1 . 2))", wrong), faults("(apply + '(1 2 3 . a))", wrong), faults("(apply 5 '(1 . 2))", wrong),
		faults("((lambda (l) (begin (set-cdr! l l) (apply + l))) (list 1))", wrong), faults("((lambda (l) (begin (set-cdr! (cdr l) l) (apply + l))) (list 1 2))", wrong), faults("((lambda (l) (begin (set-cdr! (cdr (cdr l)) (cdr l)) (apply + l))) (list 1 2 3))", wrong),
		shows("((lambda (l) (begin (set-car! l l) (display (apply pair? l)))) (list 1))", "#t"),
		faults("(apply 5 '())", "not a procedure"), faults("(apply 5 '(1))", "not a procedure"), faults("(apply car '())", "wrong number for car"), faults("(apply apply '())", "wrong number for apply"), faults("(apply raise '())", "wrong number for raise"),
		shows("(display (apply apply (list + '(1 2))))", "3"), shows("(display (apply apply (list apply (list apply (list + '(1 2))))))", "3"), shows("(call-with-values (lambda () (apply values '(1 2))) (lambda (. r) (display r)))", "(1 2)"),
		shows("(display (apply call-with-values (list (lambda () (values 1 2)) +)))", "3"), shows("(display (+ 1 (apply call/cc (list (lambda (k) (+ 5 (apply k '(2))))))))", "3"), shows("(apply dynamic-wind (list (lambda () (display 1)) (lambda () (display 2)) (lambda () (display 3))))", "123"),
		faults("(apply error '(\"a\" 1))", "a"), ran{"(apply raise '(a))", "", impl.StopError, "a"}, shows("(define p (make-parameter 1)) (display (apply with-parameter (list p 2 (lambda () (p)))))", "2"), shows("(display (apply (make-parameter 7) '()))", "7"),
	)
	// Each of so many lists says to apply the next one, all in one step.
	long := "(rec (grow) (lambda (n l) (if (= n 0) l (grow (- n 1) (list apply l)))) (display (apply apply (grow 80 (list + '(1 2))))))"
	checkRuns(t, shows(long, "3"))
	// Lists that say to apply one another without end have no parts that a call could ever come with.
	for _, text := range []string{
		"((lambda (l) (begin (set-car! (cdr l) l) (apply apply l))) (list apply 1))",
		"((lambda (l) (begin (set-car! (cdr l) l) ('() (apply apply l)))) (list apply 1))",
		"((lambda (a b) (begin (set-car! (cdr a) b) (set-car! (cdr b) a) (apply apply a))) (list apply 1) (list apply 2))",
		"((lambda (a b) (begin (set-car! (cdr a) b) (set-car! (cdr b) b) (apply apply a))) (list apply 1) (list apply 2))",
	} {
		checkRuns(t, faults(text, wrong))
		checkRuns(t, shows("(display (call/cc (lambda (k) (with-exception-handler (lambda (e) (k (error-text e))) (lambda () "+text+")))))", wrong))
	}
}

// Leaps.

// wind is a dynamic-wind that shows that it is gone into and out of.
func wind(name string, body string) string {
	return "(dynamic-wind (lambda () (display \"<" + name + "\")) (lambda () " + body + ") (lambda () (display \">" + name + "\")))"
}

func TestLeaps(t *testing.T) {
	checkRuns(t,
		shows(wind("a", "1"), "<a>a"), shows("(display "+wind("a", "1")+")", "<a>a1"), shows(wind("a", wind("b", "(display 1)")), "<a<b1>b>a"), shows("(begin "+wind("a", "1")+wind("b", "2")+")", "<a>a<b>b"),
		// To where one is.
		shows("(display (call/cc (lambda (k) (k 5))))", "5"), shows(wind("a", "(display (call/cc (lambda (k) (k 5))))"), "<a5>a"), shows(wind("a", "(display (call/cc (lambda (k) "+wind("b", "(call/cc (lambda (j) (j 1)))")+")))"), "<a<b>b1>a"),
		// Out of one, and of several.
		shows("(display (call/cc (lambda (k) "+wind("a", "(k 5)")+")))", "<a>a5"), shows("(display (call/cc (lambda (k) "+wind("a", wind("b", wind("c", "(begin (k 5) (display 6))")))+")))", "<a<b<c>c>b>a5"),
		shows(wind("a", "(display (call/cc (lambda (k) "+wind("b", wind("c", "(k 5)"))+")))"), "<a<b<c>c>b5>a"),
		// Into one, and into several.
		shows("(define k #f) (define n 0) (begin "+wind("a", "(display (call/cc (lambda (c) (begin (set! k c) 1))))")+" (set! n (+ n 1)) (if (< n 3) (k n)))", "<a1>a<a1>a<a2>a"),
		shows("(define k #f) (define n 0) (begin "+wind("a", wind("b", wind("c", "(display (call/cc (lambda (c) (begin (set! k c) 1))))")))+" (set! n (+ n 1)) (if (< n 2) (k 7)))", "<a<b<c1>c>b>a<a<b<c7>c>b>a"),
		shows("(define k #f) (define n 0) "+wind("z", "(begin "+wind("a", wind("b", "(display (call/cc (lambda (c) (begin (set! k c) 1))))"))+" (set! n (+ n 1)) (if (< n 2) (k 7)))"), "<z<a<b1>b>a<a<b7>b>a>z"),
		// Out of some and into others.
		shows("(define k #f) (define n 0) (begin "+wind("a", wind("b", "(display (call/cc (lambda (c) (begin (set! k c) 1))))"))+" (set! n (+ n 1)) (if (< n 2) "+wind("c", wind("d", "(k 7)"))+"))", "<a<b1>b>a<c<d>d>c<a<b7>b>a"),
		shows("(define k #f) (define n 0) "+wind("z", "(begin "+wind("a", "(display (call/cc (lambda (c) (begin (set! k c) 1))))")+" (set! n (+ n 1)) (if (< n 2) "+wind("b", "(k 7)")+"))"), "<z<a1>a<b>b<a7>a>z"),
		// Out of the before: it was not gone into, and so is not gone out of; and out of the after: it is gone out of already.
		shows("(display (call/cc (lambda (k) (dynamic-wind (lambda () (k 1)) (lambda () (display 2)) (lambda () (display 3))))))", "1"), shows("(display (call/cc (lambda (k) (dynamic-wind (lambda () (display 1)) (lambda () (display 2)) (lambda () (k 3))))))", "123"),
		shows("(display (call/cc (lambda (k) "+wind("a", "(dynamic-wind (lambda () (k 1)) (lambda () (display 2)) (lambda () (display 3)))")+")))", "<a>a1"), shows("(display (call/cc (lambda (k) "+wind("a", "(dynamic-wind list list (lambda () (k 3)))")+")))", "<a>a3"),
		// The after leaps to another one while one leaps: the first leap is given up.
		shows("(display (call/cc (lambda (j) (call/cc (lambda (k) (dynamic-wind list (lambda () (k 1)) (lambda () (j 2))))))))", "2"), shows("(display (list (call/cc (lambda (j) (begin (call/cc (lambda (k) (dynamic-wind list (lambda () (k 1)) (lambda () (j 2))))) 3)))))", "(2)"),
		// The before leaps out when one comes back.
		shows("(define k #f) (define n 0) (begin (display (call/cc (lambda (j) (dynamic-wind (lambda () (if (= n 0) 1 (j 9))) (lambda () (call/cc (lambda (c) (begin (set! k c) 1)))) (lambda () (display \">\")))))) (set! n (+ n 1)) (if (< n 3) (k 5)))", ">199"),
		// Values that are not one.
		shows("(call-with-values (lambda () (call/cc (lambda (k) "+wind("a", "(k 1 2)")+"))) (lambda (. r) (display r)))", "<a>a(1 2)"), shows("(begin (call/cc (lambda (k) "+wind("a", "(k)")+")) (display 1))", "<a>a1"),
		// What befores and afters give is no matter.
		shows("(display (dynamic-wind (lambda () (values 1 2)) (lambda () 3) (lambda () (values))))", "3"), shows("(display (call/cc (lambda (k) (dynamic-wind values (lambda () (k 4)) (lambda () (values 1 2))))))", "4"),
	)
}

// A cont that is called again, also one of a part of the whole that is done.
func TestLeapsBack(t *testing.T) {
	checkRuns(t,
		shows("(define k #f) (define n 0) (begin (display (list 1 (call/cc (lambda (c) (begin (set! k c) 2))) 3)) (set! n (+ n 1)) (if (< n 3) (k (* n 10))))", "(1 2 3)(1 10 3)(1 20 3)"),
		shows("(define k #f) (display (+ 1 (call/cc (lambda (c) (begin (set! k c) 1))))) (define n 0) (begin (set! n (+ n 1)) (if (< n 4) (k n)) (display \"not come to\")) (display \"end\")", "22end"),
		shows("(define k #f) (define x (call/cc (lambda (c) (begin (set! k c) 1)))) (display x) (k 2) (display x)", "12"),
		shows("(define k #f) "+wind("a", "(display (call/cc (lambda (c) (begin (set! k c) 1))))")+" (k 2) (display 3)", "<a1>a<a2>a3"),
		shows("(define k #f) "+wind("a", "(call/cc (lambda (c) (set! k c)))")+" "+wind("b", "(k 1)")+" (display 3)", "<a>a<b>b<a>a3"),
		shows("(define k (call/cc (lambda (c) c))) (display (procedure? k)) (if (procedure? k) (k 5)) (display k)", "#t5"),
		shows("(define make (lambda () (call/cc (lambda (c) c)))) ((lambda (k) (begin (display 1) (if (procedure? k) (k 5)) (display k))) (make))", "115"),
		// What a frame keeps stays as it was, though one comes back to the one ahead of it with another value.
		shows("(define j #f) (define k #f) (define n 0) (begin (display (list 1 2 (call/cc (lambda (c) (begin (set! j c) 'a))) (call/cc (lambda (c) (begin (if (= n 0) (set! k c)) 'x))) 5)) (set! n (+ n 1)) (if (= n 1) (j 'b)) (if (= n 2) (k 'y)))", "(1 2 a x 5)(1 2 b x 5)(1 2 a y 5)"),
		shows("(define k #f) (define n 0) (define l (list (list 1 2 3 (call/cc (lambda (c) (begin (set! k c) 'a)))) n)) (begin (display l) (set! n (+ n 1)) (if (= n 1) (k 'b)))", "((1 2 3 a) 0)"),
		// Handlers and parameters are those of where it was taken.
		shows("(define p (make-parameter 1)) (define k #f) (define n 0) (begin (with-parameter p 2 (lambda () (begin (call/cc (lambda (c) (set! k c))) (display (p))))) (display (p)) (set! n (+ n 1)) (if (< n 2) (with-parameter p 3 (lambda () (k 0)))))", "2121"),
		shows("(define k #f) (define n 0) (begin (display (with-exception-handler (lambda (e) (+ e 1)) (lambda () (begin (call/cc (lambda (c) (set! k c))) (raise-continuable n))))) (set! n (+ n 1)) (if (< n 3) (with-exception-handler (lambda (e) 99) (lambda () (k 0)))))", "123"),
		ran{"(define k #f) (with-exception-handler list (lambda () (call/cc (lambda (c) (set! k c))))) (define n 0) (begin (set! n (+ n 1)) (if (< n 2) (k 0)))(raise 'out)", "", impl.StopError, "out"},
		shows("(define p (make-parameter 1)) (display (call/cc (lambda (k) (with-parameter p 2 (lambda () (k (p))))))) (display (p))", "21"),
		shows("(define p (make-parameter 1)) (display (call/cc (lambda (k) (with-parameter p 2 (lambda () (dynamic-wind list (lambda () (k 3)) (lambda () (display (p)))))))))", "23"),
		// In the before and the after one is within what is around the dynamic-wind, if one comes and goes as usual.
		shows("(define p (make-parameter 1)) (define f (lambda () (display (p)))) (dynamic-wind f (lambda () (with-parameter p 2 f)) f)", "121"),
	)
}

// Raising.

func TestRaising(t *testing.T) {
	raised := func(text string, fault string) ran { return ran{text, "", impl.StopError, fault} }
	cameBack := "#<error a handler came back>"
	checkRuns(t,
		// Without a handler.
		raised("(raise 1)", "1"), raised("(raise 'x)", "x"), raised("(raise \"a b\")", "a b"), raised("(raise \"\")", ""), raised("(raise '(1 . 2))", "(1 . 2)"), raised("(raise car)", "#<procedure>"), raised("(raise (if #f #f))", "#<none>"), raised("(raise-continuable 1)", "1"),
		raised("(error \"bad\" 1 2)", "#<error bad>"), raised("(error \"\")", "#<error >"), raised("(raise (list 1 (lambda () 1)))", "(1 #<procedure>)"), raised("((lambda (q) (begin (set-cdr! q q) (raise q))) (cons 1 2))", ""), raised("((lambda (q) (begin (set-car! q q) (raise (list 1 q)))) (cons 1 2))", ""),
		ran{"(begin (display 1) (raise 2) (display 3)) (display 4)", "1", impl.StopError, "2"}, ran{wind("a", "(raise 1)"), "<a", impl.StopError, "1"}, ran{"(display 1) nobody (display 2)", "1", impl.StopError, "#<error unbound nobody>"},
		// With one that leaps.
		shows("(display (call/cc (lambda (k) (with-exception-handler (lambda (e) (k e)) (lambda () (+ 1 (raise 5)))))))", "5"), shows("(display (call/cc (lambda (k) (with-exception-handler k (lambda () (+ 1 (raise 5)))))))", "5"),
		shows("(display (call/cc (lambda (k) (with-exception-handler (lambda (e) (k (list (error? e) (error-text e) (error-list e)))) (lambda () (error \"a\" 1 '(2) \"c\"))))))", "(#t a (1 (2) c))"),
		shows("(display (call/cc (lambda (k) (with-exception-handler (lambda (e) (k (list (error-text e) (error-list e)))) (lambda () (car 1))))))", "(wrong value for car ())"), shows("(display (call/cc (lambda (k) (with-exception-handler (lambda (e) (k (error-text e))) (lambda () nobody)))))", "unbound nobody"),
		shows("(display (call/cc (lambda (k) (with-exception-handler (lambda (e) (k e)) (lambda () "+wind("a", wind("b", "(raise 5)"))+")))))", "<a<b>b>a5"),
		// With one that comes back.
		raised("(with-exception-handler (lambda (e) 1) (lambda () (raise 2)))", cameBack), raised("(with-exception-handler (lambda (e) 1) (lambda () (car 2)))", cameBack), raised("(with-exception-handler (lambda (e) (values 1 2)) (lambda () (error \"a\")))", cameBack), raised("(with-exception-handler list (lambda () nobody))", cameBack),
		ran{"(with-exception-handler (lambda (e) (display e)) (lambda () (begin (raise 2) (display 3))))", "2", impl.StopError, cameBack},
		shows("(display (with-exception-handler (lambda (e) (* e 10)) (lambda () (+ 1 (raise-continuable 4)))))", "41"), shows("(call-with-values (lambda () (with-exception-handler (lambda (e) (values e 2)) (lambda () (raise-continuable 1)))) (lambda (. r) (display r)))", "(1 2)"), shows("(with-exception-handler (lambda (e) (values)) (lambda () (begin (raise-continuable 1) (display 2))))", "2"),
		raised("(with-exception-handler (lambda (e) (values 1 2)) (lambda () (+ 1 (raise-continuable 1))))", cameBack), shows("(display (with-exception-handler list (lambda () (cons (raise-continuable 1) (raise-continuable 2)))))", "((1) 2)"),
		// Behind it, and behind what is called, the handler is that of around.
		raised("(begin (with-exception-handler list (lambda () 1)) (raise 2))", "2"), raised("(begin (with-exception-handler list (lambda () (raise-continuable 1))) (raise 2))", "2"), raised("(begin (call/cc (lambda (k) (with-exception-handler k (lambda () (raise 1))))) (raise 2))", "2"),
		shows("(display (with-exception-handler (lambda (e) 7) (lambda () (values 1))))", "1"), shows("(call-with-values (lambda () (with-exception-handler list (lambda () (values 1 2)))) (lambda (. r) (display r)))", "(1 2)"),
	)
}

func TestRaisingWithinHandlers(t *testing.T) {
	raised := func(text string, fault string) ran { return ran{text, "", impl.StopError, fault} }
	within := func(outer, inner, body string) string {
		return "(with-exception-handler " + outer + " (lambda () (with-exception-handler " + inner + " (lambda () " + body + "))))"
	}
	checkRuns(t,
		raised("(with-exception-handler (lambda (e) (raise (+ e 1))) (lambda () (raise 1)))", "2"), raised("(with-exception-handler (lambda (e) (car e)) (lambda () (raise-continuable 1)))", "#<error wrong value for car>"), raised("(with-exception-handler raise (lambda () (raise 1)))", "1"), raised("(with-exception-handler error (lambda () (raise \"a\")))", "#<error a>"),
		raised("(with-exception-handler 5 (lambda () (raise 1)))", "#<error not a procedure>"), raised("(with-exception-handler (lambda () 1) (lambda () (raise 1)))", "#<error wrong number for a procedure>"), raised("(with-exception-handler car (lambda () (raise 1)))", "#<error wrong value for car>"), raised("(with-exception-handler 1 2)", "#<error not a procedure>"),
		shows("(display "+within("(lambda (e) (* e 2))", "(lambda (e) (+ e 1))", "(raise-continuable 5)")+")", "6"), shows("(display "+within("(lambda (e) (* e 2))", "(lambda (e) (+ 1 (raise-continuable e)))", "(raise-continuable 5)")+")", "11"),
		shows("(display "+within("(lambda (e) (* e 2))", "(lambda (e) (+ 1 (raise-continuable e)))", "(+ (raise-continuable 5) (raise-continuable 1))")+")", "14"),
		shows("(display (call/cc (lambda (k) "+within("(lambda (e) (k (list 'out e)))", "(lambda (e) (raise (list 'in e)))", "(raise 1)")+")))", "(out (in 1))"), shows("(display (call/cc (lambda (k) "+within("(lambda (e) (k (error-text e)))", "(lambda (e) e)", "(raise 1)")+")))", "a handler came back"),
		// The one around is told that the inner one came back, and comes back, too.
		raised(within("(lambda (e) 1)", "(lambda (e) 2)", "(raise 3)"), "#<error a handler came back>"), ran{within("(lambda (e) (display (error-text e)))", "(lambda (e) (display e))", "(raise 3)"), "3a handler came back", impl.StopError, "#<error a handler came back>"},
		// A handler within a handler, and one within another one's call.
		shows("(display (with-exception-handler (lambda (e) (with-exception-handler (lambda (f) (* f 10)) (lambda () (raise-continuable (+ e 1))))) (lambda () (+ 1 (raise-continuable 4)))))", "51"),
		shows("(display "+within("(lambda (e) 'outer)", "(lambda (e) 'inner)", "(call/cc (lambda (k) (raise-continuable 1)))")+")", "inner"), shows("(display (with-exception-handler (lambda (e) 'outer) (lambda () (begin (with-exception-handler (lambda (e) 'inner) (lambda () 1)) (raise-continuable 1)))))", "outer"),
		raised("(define h (lambda (e) (raise e))) "+within("h", "h", within("h", "h", "(raise 'through)")), "through"),
		// What is raised is called with the cont of its handler.
		shows("(display (with-exception-handler call/cc (lambda () (raise-continuable (lambda (k) (+ 1 (k 5)))))))", "5"), raised("(with-exception-handler call/cc (lambda () (raise (lambda (k) 5))))", "#<error a handler came back>"),
	)
	// The handler is called where it was raised: frames and winds are those of there, and the parameter, too.
	checkRuns(t, shows("(define p (make-parameter 1)) (with-exception-handler (lambda (e) (display (p))) (lambda () "+wind("a", "(with-parameter p 2 (lambda () (raise-continuable 0)))")+"))", "<a2>a"))
}

// Fault is what is shown, if that is just as much as may be shown; else the empty text.
func TestRaisingOfMuch(t *testing.T) {
	for count, ok := range map[int]bool{32: true, 33: true, 34: false, 60: false} {
		// Each is shown as 60 bytes and a space; with the parentheses that is one more.
		word := strings.Repeat("x", 59)
		text := strings.TrimSuffix(strings.Repeat(word+" ", count), " ")
		want := "(" + text + ")"
		if !ok {
			want = ""
		}
		checkRuns(t, ran{"(raise '(" + text + "))", "", impl.StopError, want})
	}
	for size, ok := range map[int]bool{18: true, 19: true, 20: false} {
		text := strings.TrimSuffix(strings.Repeat(strings.Repeat("x", 59)+" ", 33), " ") + " " + strings.Repeat("y", size-1)
		want := "(" + text + ")"
		if (len(want) <= 2000) != ok {
			t.Fatal(len(want))
		}
		if !ok {
			want = ""
		}
		checkRuns(t, ran{"(raise '(" + text + "))", "", impl.StopError, want})
	}
}

func TestShowsTooMuch(t *testing.T) {
	checkRuns(t,
		ran{"((lambda (q) (begin (display 1) (set-cdr! q q) (display q) (display 2))) (cons 1 2))", "1", impl.StopOut, ""}, ran{"((lambda (q) (begin (set-cdr! q q) (equal? q q) (display 2))) (cons 1 2))", "", impl.StopOut, ""},
		ran{"(rec (f) (lambda (n) (begin (display '(" + strings.TrimSuffix(strings.Repeat("1 ", 200), " ") + ")) (f n))) (f 1))", strings.Repeat("("+strings.TrimSuffix(strings.Repeat("1 ", 200), " ")+")", 4), impl.StopOut, ""},
	)
	// The value is given all the same.
	s := checkStates(t, readOk(t, "((lambda (q) (begin (set-cdr! q q) (display q))) (cons 1 2))"), 99)
	if s.Mode != 2 || !slices.Equal(s.Vals, vals(none)) {
		t.Errorf("%+v", s)
	}
}

// Programs of all sorts, as the document's words say.
func TestCoreAtOfSome(t *testing.T) {
	m := newRunMaker(152)
	stops := map[int]int{}
	for range 500 {
		stops[checkStates(t, m.program(), 50).Stop]++
	}
	plain := newMaker(153)
	for range 500 {
		stops[checkStates(t, plain.program(), 20).Stop]++
	}
	if stops[impl.StopDone] < 200 || stops[impl.StopError] < 200 || stops[impl.StopSteps] < 10 {
		t.Errorf("too few of one kind: %v", stops)
	}
}

// All lists of the answer are its own, spare room included, and nothing is written into what is handed in.
func TestCoreAtSharesNothing(t *testing.T) {
	m := newRunMaker(154)
	for range 40 {
		list := withRoom(m.program())
		before := toTheEnd(list)
		in := memoryOf(reflect.ValueOf(list), "program", true)
		for _, steps := range []int{0, 7, 30, 5000} {
			s := impl.CoreAt(list, steps)
			if what := shared(memoryOf(reflect.ValueOf(s), "state", true), in, false); what != "" {
				t.Fatalf("%s\nbehind %d steps: %s", shownLines(list), steps, what)
			}
			lists := memoryOf(reflect.ValueOf(s), "state", false)
			if what := shared(lists, lists, true); len(lists) < 400 && what != "" {
				t.Fatalf("%s\nbehind %d steps, within: %s", shownLines(list), steps, what)
			}
			again := impl.CoreAt(list, steps)
			markAll(reflect.ValueOf(&s).Elem())
			if !sameStates(impl.CoreAt(list, steps), again) {
				t.Fatalf("%s: another answer", shownLines(list))
			}
		}
		if !sameAs(toTheEnd(list), before) {
			t.Fatalf("%s was changed", shownLines(list))
		}
	}
}
