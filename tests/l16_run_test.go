package tests

import (
	"reflect"
	"slices"
	"strconv"
	"strings"
	"sync"
	"testing"

	"loop.example/sispass/impl"
)

// coreResultAgain is what CoreResultOf is to answer.
func coreResultAgain(list []impl.ExpCore) impl.CoreResult {
	s := coreAtAgain(list, 5000)
	return impl.CoreResult{Out: s.Out, Stop: s.Stop, Fault: s.Fault, Steps: s.Steps, Deepest: s.Deepest}
}

// coreSessionAgain is what CoreSession is to answer.
func coreSessionAgain(text string) string {
	list, ok := readAgain(text)
	if !ok {
		return "bad text\n"
	}
	r := coreResultAgain(list)
	word := names("", "done", "too many steps", "no room", "shows too much", "error "+r.Fault, "too deep")[r.Stop]
	return r.Out + "\n" + word + ", " + strconv.Itoa(r.Steps) + " steps, " + strconv.Itoa(r.Deepest) + " deep\n"
}

func checkSession(t *testing.T, text string, want string) {
	t.Helper()
	if again := coreSessionAgain(text); again != want {
		t.Fatalf("%.200q: wanted %.200q, and it is to be %.200q", text, want, again)
	}
	if got := impl.CoreSession(text); got != want {
		t.Errorf("CoreSession(%.200q): %q; want %q", text, got, want)
	}
}

func TestSessionOfEachStop(t *testing.T) {
	long := strings.Repeat("x", 50)
	checkSession(t, "", "\ndone, 0 steps, 0 deep\n")
	checkSession(t, " \n ", "\ndone, 0 steps, 0 deep\n")
	checkSession(t, "1", "\ndone, 4 steps, 0 deep\n")
	checkSession(t, "(display 1)", "1\ndone, 8 steps, 1 deep\n")
	checkSession(t, "(begin (display 1) (newline) (display 2))", "1\n2\ndone, 19 steps, 2 deep\n")
	checkSession(t, "(car 1)", "\nerror #<error wrong value for car>, 6 steps, 1 deep\n")
	checkSession(t, "(display \"a\") (raise 'x)", "a\nerror x, 13 steps, 1 deep\n")
	checkSession(t, "(raise \"\")", "\nerror , 6 steps, 1 deep\n")
	checkSession(t, "((lambda (q) (begin (set-cdr! q q) (raise q))) (cons 1 2))", "\nerror , 26 steps, 2 deep\n")
	checkSession(t, "nobody", "\nerror #<error unbound nobody>, 2 steps, 0 deep\n")
	checkSession(t, "(display 7) ((lambda (q) (begin (set-cdr! q q) (display q))) (cons 1 2)) (display 8)", "7\nshows too much, 33 steps, 2 deep\n")
	checkSession(t, "(define f (lambda () (begin (f) 1))) (begin (display 1) (f))", "1\ntoo deep, 1214 steps, 301 deep\n")
	checkSession(t, "'("+strings.Repeat("1 ", 3000)+"1)", "\nno room, 2 steps, 0 deep\n")
	checkSession(t, strings.Repeat("1\n", 2000), "\ntoo many steps, 5000 steps, 0 deep\n")
	checkSession(t, "(display \"<\")"+strings.Repeat("1\n", 1900), "<\ntoo many steps, 5000 steps, 1 deep\n")
	// What was shown before it stays.
	shown := "(display '" + long + ")"
	checkSession(t, strings.Repeat(shown, 40), strings.Repeat(long, 40)+"\ndone, 281 steps, 1 deep\n")
	checkSession(t, strings.Repeat(shown, 41), strings.Repeat(long, 40)+"\nshows too much, 286 steps, 1 deep\n")
	checkSession(t, strings.Repeat(shown, 40)+"(newline)", strings.Repeat(long, 40)+"\nshows too much, 284 steps, 1 deep\n")
}

// What the last step shows is shown, also if a limit is met in it.
func TestResultOfTheLastStep(t *testing.T) {
	for steps, out := range map[int]string{4994: "x", 4995: ""} {
		list := padded(steps, 0, readOk(t, "(display 'x)")...)
		if got := impl.CoreResultOf(list); got != coreResultAgain(list) || got.Out != out || got.Stop != impl.StopSteps || got.Steps != 5000 {
			t.Errorf("%d steps ahead: %+v", steps, got)
		}
	}
}

func TestSessionExample(t *testing.T) {
	text := `(define fact (lambda (n) (if (< n 2) 1 (* n (fact (- n 1))))))
(begin (display (fact 20)) (display " ") (display (/ 6 4)) (newline))
(dynamic-wind (lambda () (display "[")) (lambda () (call/cc (lambda (k) (begin (display "in") (k 1) (display "never"))))) (lambda () (display "]")))
(define again #f)
(define count 0)
(begin (dynamic-wind (lambda () (display "<")) (lambda () (begin (call/cc (lambda (k) (set! again k))) (display count))) (lambda () (display ">"))) (set! count (+ count 1)) (if (< count 3) (again 0)) (newline))
(display (call/cc (lambda (k) (with-exception-handler (lambda (e) (k (list (error-text e) (error-list e)))) (lambda () (error "bad" 1 'two))))))
(display (with-exception-handler (lambda (e) (* e 10)) (lambda () (+ 1 (raise-continuable 4)))))
(define p (make-parameter 'out))
(begin (with-parameter p 'in (lambda () (display (p)))) (display (p)) (newline))
(call-with-values (lambda () (values 1 2 3)) (lambda (a . r) (display r)))
(rec (even odd) (lambda (n) (if (= n 0) #t (odd (- n 1)))) (lambda (n) (if (= n 0) #f (even (- n 1)))) (display (even 100)))
(car '(a . b))
(car 5)
(display "not come to")
`
	want := "2432902008176640000 3/2\n[in]<0><1><2>\n(bad (1 two))41inout\n(2 3)#t\nerror #<error wrong value for car>, 2929 steps, 23 deep\n"
	checkSession(t, text, want)
	checkStates(t, readOk(t, text), 400)
}

func TestSessionOfBadTexts(t *testing.T) {
	for _, text := range names(
		"(", ")", "()", "'", "(lambda)", "(lambda (x))", "(if)", "(if 1)", "(if 1 2 3 4)", "(set! x)", "(define x)", "(begin)", "(rec (a) 1)", "(rec () 1)", "\"", "\"a", "#x", "1 )", "(a . b)", "'(1 . (b))", "(begin (define x 1))",
		"(lambda (a a) a)", "\t", "\x00", "\xff", "(display \"\n\")", strings.Repeat("1 ", 2001), strings.Repeat(" ", 8001), strings.Repeat("(begin ", 101)+"1"+strings.Repeat(")", 101),
	) {
		checkSession(t, text, "bad text\n")
	}
	checkSession(t, strings.Repeat(" ", 8000), "\ndone, 0 steps, 0 deep\n")
	checkSession(t, strings.Repeat("(begin ", 100)+"1"+strings.Repeat(")", 100), "\ndone, 104 steps, 0 deep\n")
}

// CoreSession answers every text. (Promise 15.)
func TestSessionOfSomeTexts(t *testing.T) {
	m := newRunMaker(161)
	told := map[bool]int{}
	for range 1500 {
		text := shownLines(m.program())
		if m.random.Intn(3) == 0 {
			text = m.mistyped(text)
		}
		if m.random.Intn(3) == 0 {
			text = text[:m.random.Intn(len(text)+1)]
		}
		want := coreSessionAgain(text)
		told[want == "bad text\n"]++
		checkSession(t, text, want)
	}
	if told[true] < 200 || told[false] < 500 {
		t.Errorf("too few of one kind: %v", told)
	}
}

// What is told is the same whatever else runs at the time, and after all that was asked before.
func TestResultsSideBySide(t *testing.T) {
	m := newRunMaker(162)
	var programs [][]impl.ExpCore
	var results []impl.CoreResult
	for range 40 {
		list := m.program()
		programs, results = append(programs, list), append(results, impl.CoreResultOf(list))
	}
	var wait sync.WaitGroup
	for range 8 {
		wait.Go(func() {
			for i, list := range programs {
				if got := impl.CoreResultOf(list); got != results[i] || !strings.HasPrefix(impl.CoreSession(shownLines(list)), got.Out+"\n") {
					t.Errorf("%s: %+v; want %+v", shownLines(list), got, results[i])
				}
			}
		})
	}
	wait.Wait()
}

func TestResultSharesNothing(t *testing.T) {
	m := newRunMaker(163)
	for range 200 {
		list := withRoom(m.program())
		before := toTheEnd(list)
		r := impl.CoreResultOf(list)
		if what := shared(memoryOf(reflect.ValueOf(r), "result", true), memoryOf(reflect.ValueOf(list), "program", true), false); what != "" {
			t.Fatalf("%s: %s", shownLines(list), what)
		}
		if !sameAs(toTheEnd(list), before) {
			t.Fatalf("%s was changed", shownLines(list))
		}
	}
	for _, text := range names("(raise 'symbol)", "(raise \"a string\")", "(raise 12345)", "nobody", "(display \"shown\")") {
		list := copyOf(readOk(t, text))
		r := impl.CoreResultOf(list)
		if what := shared(memoryOf(reflect.ValueOf(r), "result", true), memoryOf(reflect.ValueOf(list), "program", true), false); what != "" {
			t.Errorf("%s: %s", text, what)
		}
	}
}

// Promise 10: it stands within CoreMaxSteps steps and CoreMaxOut bytes; what was shown behind some steps is the beginning; steps add up.
func TestResultsStand(t *testing.T) {
	m := newRunMaker(164)
	texts := names(
		"(rec (f) (lambda () (f)) (f))", "(rec (f) (lambda () (begin (display \"abc\") (f))) (f))", "(define k (call/cc (lambda (c) c))) (k k)", "(define k #f) (begin (call/cc (lambda (c) (set! k c))) (display 1) (k 0))",
		"(define k #f) (call/cc (lambda (c) (set! k c))) (k 1)", "(rec (f) (lambda () (with-exception-handler f (lambda () (raise 1)))) (f))", "(rec (f) (lambda (. r) (with-exception-handler f (lambda () (raise 1)))) (f))",
		"(rec (f) (lambda () (dynamic-wind (lambda () (display 1)) f (lambda () (display 2)))) (f))", "(define k #f) (begin (dynamic-wind (lambda () (display \"<\")) (lambda () (call/cc (lambda (c) (set! k c)))) (lambda () (display \">\"))) (k 0))",
		"((lambda (x) (x x)) (lambda (x) (x x)))", "((lambda (x) (begin (newline) (x x))) (lambda (x) (begin (newline) (x x))))", "((lambda (l) (begin (set-car! (cdr l) l) (apply apply l))) (list apply 1))", "(display '("+strings.Repeat("x ", 998)+"x))", "(display '("+strings.Repeat("x ", 999)+"x))",
	)
	var programs [][]impl.ExpCore
	for _, text := range texts {
		programs = append(programs, readOk(t, text))
	}
	for range 150 {
		programs = append(programs, m.program())
	}
	for _, list := range programs {
		r := impl.CoreResultOf(list)
		if r.Stop < impl.StopDone || r.Stop > impl.StopStack || r.Steps > 5000 || r.Steps < 0 || len(r.Out) > 2000 || r.Deepest > 5000 {
			t.Fatalf("%s: %+v", shownLines(list), r)
		}
		if r.Stop != impl.StopError && r.Fault != "" || r.Stop == impl.StopSteps && r.Steps != 5000 || r.Stop == impl.StopStack && r.Deepest <= 300 {
			t.Fatalf("%s: %+v", shownLines(list), r)
		}
		for _, steps := range []int{0, 1, 10, 40, r.Steps / 2, r.Steps - 1, r.Steps, 5000} {
			checkStepsAddUp(t, list, r, steps)
		}
	}
}

func checkStepsAddUp(t *testing.T, list []impl.ExpCore, r impl.CoreResult, steps int) {
	t.Helper()
	s := impl.CoreAt(list, steps)
	if !strings.HasPrefix(r.Out, s.Out) || s.Steps != max(0, min(steps, r.Steps)) || s.Deepest > r.Deepest || (s.Stop != 0) != (steps >= r.Steps) {
		t.Fatalf("%s\nbehind %d steps: %+v; in the end %+v", shownLines(list), steps, s, r)
	}
	if s.Stop != 0 {
		return
	}
	// The state behind one more is one step behind it.
	again := rerunOf(list)
	again.s = copyOf(s)
	again.step()
	if next := impl.CoreAt(list, s.Steps+1); !sameStates(next, again.s) {
		t.Fatalf("%s\nbehind %d steps: %+v; want %+v", shownLines(list), steps+1, next, again.s)
	}
}

// Promise 11: each is gone out of only when it is the last one gone into.
func TestWindsNest(t *testing.T) {
	m := newRunMaker(165)
	m.quiet = true
	jumps := 0
	for range 1500 {
		list := m.program()
		s := impl.CoreAt(list, 5000)
		var within []string
		for _, word := range strings.Fields(s.Out) {
			if word[0] == '<' {
				within = append(within, word[1:])
				continue
			}
			if len(within) == 0 || within[len(within)-1] != word[1:] {
				t.Fatalf("%s: %s", shownLines(list), s.Out)
			}
			within = within[:len(within)-1]
		}
		if s.Stop == impl.StopDone && len(within) > 0 {
			t.Fatalf("%s: done within %v: %s", shownLines(list), within, s.Out)
		}
		if slices.ContainsFunc(s.Frames, func(f impl.CoreFrame) bool { return f.Kind == 11 }) {
			jumps++
		}
	}
	if jumps < 200 {
		t.Errorf("%d programs with leaps", jumps)
	}
}

// Promise 12: these go no deeper, however often they run.
func TestTailCalls(t *testing.T) {
	next := names(
		"(loop (- n 1))", "(apply loop (list (- n 1)))", "(call/cc (lambda (k) (loop (- n 1))))", "(if #t (loop (- n 1)) 0)", "(if #f 0 (loop (- n 1)))", "(begin 1 (loop (- n 1)))", "(begin 1 2 3 (loop (- n 1)))", "(begin (loop (- n 1)))",
		"(rec (x) 1 (loop (- n 1)))", "(rec (x y) 1 2 (loop (- n 1)))", "(call-with-values (lambda () (- n 1)) loop)", "(call-with-values (lambda () (values 1 (- n 1))) (lambda (a b) (loop b)))", "(call-with-values (lambda () (values)) (lambda () (loop (- n 1))))",
		"((lambda (m) (loop m)) (- n 1))", "((lambda (. r) (apply loop r)) (- n 1))", "(apply apply (list loop (list (- n 1))))", "(call/cc (lambda (k) (begin (set! kept k) (loop (- n 1)))))", "(apply call/cc (list (lambda (k) (loop (- n 1)))))",
		"(if (= n 1) (begin (loop (- n 1))) (rec (x) n (apply loop (list (- x 1)))))", "(call-with-values (lambda () (call/cc (lambda (k) (k (- n 1))))) (lambda (m) (if m (begin m (call/cc (lambda (j) (loop m)))))))",
	)
	loops := func(body string, rounds int) impl.CoreResult {
		list := readOk(t, "(define kept 0) (display (rec (loop) (lambda (n) (if (< n 1) 'end "+body+")) (loop "+strconv.Itoa(rounds)+")))")
		r := impl.CoreResultOf(list)
		if r != coreResultAgain(list) || r.Stop != impl.StopDone || r.Out != "end" && strings.Contains(body, "loop") {
			t.Fatalf("%s: %+v", body, r)
		}
		return r
	}
	for _, body := range next {
		few := loops(body, 2)
		for _, rounds := range []int{3, 4, 10, 50} {
			if r := loops(body, rounds); r.Deepest != few.Deepest {
				t.Errorf("%s: %d deep with %d rounds, %d with two", body, r.Deepest, rounds, few.Deepest)
			}
		}
	}
	// What is still to do something behind a round does go deeper.
	for _, body := range names("(begin (loop (- n 1)) 'end)", "(call/cc (lambda (k) (k (loop (- n 1)))))", "((lambda (x) x) (loop (- n 1)))", "(dynamic-wind list (lambda () (loop (- n 1))) list)", "(with-exception-handler list (lambda () (loop (- n 1))))", "(with-parameter (make-parameter 1) 2 (lambda () (loop (- n 1))))", "(call-with-values (lambda () (loop (- n 1))) values)") {
		if few, more := loops(body, 5), loops(body, 25); more.Deepest < few.Deepest+20 {
			t.Errorf("%s: %d deep, and %d", body, few.Deepest, more.Deepest)
		}
	}
}

// Ways of going on, one within the other.
func TestTailCallsOfSome(t *testing.T) {
	m := newRunMaker(166)
	ways := names("(if #t NEXT 0)", "(if #f 0 NEXT)", "(begin 1 NEXT)", "(rec (x) 1 NEXT)", "(call/cc (lambda (k) NEXT))", "(call-with-values (lambda () 1) (lambda (x) NEXT))", "((lambda (y) NEXT) n)", "(apply (lambda (z) NEXT) (list 1))", "((lambda () NEXT))")
	for range 100 {
		body := m.pick(names("(loop (- n 1))", "(apply loop (list (- n 1)))", "(call-with-values (lambda () (- n 1)) loop)"))
		for range m.random.Intn(5) {
			body = strings.Replace(m.pick(ways), "NEXT", body, 1)
		}
		var deepest []int
		for _, rounds := range []int{2, 4, 9, 20} {
			r := impl.CoreResultOf(readOk(t, "(rec (loop) (lambda (n) (if (< n 1) (display 'end) "+body+")) (loop "+strconv.Itoa(rounds)+"))"))
			if r.Out != "end" || r.Stop != impl.StopDone {
				t.Fatalf("%s: %+v", body, r)
			}
			deepest = append(deepest, r.Deepest)
		}
		if slices.Min(deepest) != slices.Max(deepest) {
			t.Errorf("%s: %v deep", body, deepest)
		}
	}
}

// Promise 13: names that are bound are no matter.
func TestResultsOfRenamed(t *testing.T) {
	m := newRunMaker(167)
	check := func(list []impl.ExpCore, other []impl.ExpCore) {
		t.Helper()
		if got, want := impl.CoreResultOf(other), impl.CoreResultOf(list); got != want {
			t.Fatalf("%s\n%+v\n%s\n%+v", shownLines(list), want, shownLines(other), got)
		}
	}
	same := 0
	for range 800 {
		list := m.program()
		count := 0
		other := renamed(list, nil, &count)
		if !impl.ExpAlpha(list, other) || !impl.CoreOk(other) {
			t.Fatalf("%s", shownLines(other))
		}
		check(list, other)
		// Names of the program, too, if what comes is the same but for names.
		swapped := cloneParts(list)
		pool := append(names("x", "y", "z", "list", "k", "car", "p", "g", "n", "unused"), m.names...)
		eachPart(swapped, func(c *impl.ExpCore) { m.rename(c, m.pick(pool)) })
		if impl.ExpAlpha(list, swapped) && impl.CoreOk(swapped) {
			same++
			check(list, swapped)
		}
	}
	if same < 100 {
		t.Errorf("%d programs with other names", same)
	}
	for _, c := range [][2]string{
		{"(display ((lambda (a b) (list a b)) 1 2))", "(display ((lambda (b a) (list b a)) 1 2))"}, {"((lambda (a) (set! a (nobody a))) 1)", "((lambda (c) (set! c (nobody c))) 1)"},
		{"(rec (f) (lambda (n) (f n)) (f 1))", "(rec (display) (lambda (car) (display car)) (display 1))"}, {"((lambda (a) b) 1)", "((lambda (c) b) 1)"}, {"(rec (a b) b 1 a)", "(rec (not yet) yet 1 not)"},
	} {
		one, other := readOk(t, c[0]), readOk(t, c[1])
		if !impl.ExpAlpha(one, other) {
			t.Fatal(c)
		}
		check(one, other)
	}
}

// rename gives one of the names that a part binds, sometimes, another name, there and in all that is within.
func (m *runMaker) rename(c *impl.ExpCore, to string) {
	if len(c.Names) == 0 || m.random.Intn(4) > 0 {
		return
	}
	at := m.random.Intn(len(c.Names))
	from := c.Names[at]
	c.Names = slices.Clone(c.Names)
	c.Names[at] = to
	eachPart(c.Kids, func(kid *impl.ExpCore) {
		if kid.Text == from && (kid.Sort == impl.CoreRef || kid.Sort == impl.CoreSet) {
			kid.Text = to
		}
	})
}

// wrappings are what each part of the whole may be put into. (Promise 14.)
func wrappings() map[string]func(c impl.ExpCore) impl.ExpCore {
	return map[string]func(c impl.ExpCore) impl.ExpCore{
		"begin":     func(c impl.ExpCore) impl.ExpCore { return begin(c) },
		"procedure": func(c impl.ExpCore) impl.ExpCore { return call(lambda(nil, c)) },
		"call/cc":   func(c impl.ExpCore) impl.ExpCore { return call(ref("call/cc"), lambda(names("unused"), c)) },
	}
}

// checkWrapped is promise 14 of a program; it tells whether there was anything to be compared.
func checkWrapped(t *testing.T, list []impl.ExpCore, name string, wrap func(c impl.ExpCore) impl.ExpCore, may func() bool) bool {
	t.Helper()
	other := slices.Clone(list)
	for i, c := range other {
		if c.Sort != impl.CoreDefine && may() {
			other[i] = wrap(c)
		}
	}
	isPlain := func(r impl.CoreResult) bool { return r.Stop == impl.StopDone || r.Stop == impl.StopError }
	want, got := impl.CoreResultOf(list), impl.CoreResultOf(other)
	if !isPlain(want) || !isPlain(got) {
		return false
	}
	if got.Out != want.Out || got.Stop != want.Stop || got.Fault != want.Fault {
		t.Fatalf("%s\n%+v; in a %s: %+v", shownLines(list), want, name, got)
	}
	return true
}

func TestResultsOfWrapped(t *testing.T) {
	m := newRunMaker(168)
	compared := map[string]int{}
	for range 600 {
		list := m.program()
		for name, wrap := range wrappings() {
			for _, may := range []func() bool{func() bool { return true }, func() bool { return m.random.Intn(2) == 0 }} {
				if checkWrapped(t, list, name, wrap, may) {
					compared[name]++
				}
			}
		}
	}
	for name := range wrappings() {
		if compared[name] < 600 {
			t.Errorf("%s: %d compared", name, compared[name])
		}
	}
	always := func() bool { return true }
	for _, text := range names(
		"(display 1)", "(values 1 2) (display 2)", "(display (call/cc (lambda (k) (k 5))))", "(car 1)", "nobody", "(raise 'a)", "(error \"a\")", "(set! x 1)", "(define k #f) (define n 0) (begin (display (call/cc (lambda (c) (begin (set! k c) 1)))) (set! n (+ n 1)) (if (< n 3) (k n)))",
		"(define k #f) (display (call/cc (lambda (c) (begin (set! k c) 1)))) (k 2) (display 3)", wind("a", "(call/cc (lambda (k) (k 1)))")+wind("b", "(raise 1)"), "(with-exception-handler (lambda (e) 1) (lambda () (raise 2)))", "(define x 1) (set! x 2) (display x) (5)",
	) {
		for name, wrap := range wrappings() {
			if !checkWrapped(t, readOk(t, text), name, wrap, always) {
				t.Errorf("%s in a %s", text, name)
			}
		}
	}
}
