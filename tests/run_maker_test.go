package tests

import (
	"strconv"
	"strings"

	"loop.example/sispass/impl"
)

// runMaker makes texts of programs that mostly run: what they call is often a procedure, and takes as many values.
type runMaker struct {
	maker
	winds int
	quiet bool // Nothing is shown but that a dynamic-wind is gone into or out of.
}

func newRunMaker(seed int64) *runMaker {
	return &runMaker{maker: newMaker(seed)}
}

// program is one that CoreRead reads.
func (m *runMaker) program() []impl.ExpCore {
	for {
		m.winds = 0
		text := "(define g 0) (define k #f) (define count 0) (define p (make-parameter 'p)) (define f (lambda (x) " + m.part(2, names("x")) + "))"
		for range 2 + m.random.Intn(4) {
			part := m.part(4, nil)
			if m.random.Intn(4) > 0 {
				part = "(call/cc (lambda (out) (with-exception-handler (lambda (e) (out e)) (lambda () " + part + "))))"
			}
			text += "\n" + part
		}
		if list, ok := impl.CoreRead(text); ok {
			return list
		}
	}
}

func (m *runMaker) oneOf(list ...string) string {
	return m.pick(list)
}

// atom is a part that has none of its own.
func (m *runMaker) atom(known []string) string {
	if len(known) > 0 && m.random.Intn(2) == 0 {
		return m.pick(known)
	}
	return m.oneOf("0", "1", "2", "-1/2", "#t", "#f", "'a", "'()", "'(1 2)", "'(a (b) . c)", "\"s\"", "g", "count", "g", "f", "k", "list", "values", "(p)")
}

// number is a part that is often a number.
func (m *runMaker) number(deep int, known []string) string {
	if deep > 0 && m.random.Intn(4) == 0 {
		return m.part(deep-1, known)
	}
	return m.oneOf("0", "1", "2", "3", "count")
}

func (m *runMaker) kids(count int, deep int, known []string) string {
	var text strings.Builder
	for range count {
		text.WriteString(" " + m.part(deep, known))
	}
	return text.String()
}

// thunk is a procedure of nothing, and mostly one that is none of what is given.
func (m *runMaker) thunk(deep int, known []string) string {
	if m.random.Intn(12) == 0 {
		return m.oneOf("list", "values", "newline", "p", "k", "5", "car")
	}
	return "(lambda () " + m.part(deep, known) + ")"
}

// wind is a dynamic-wind that shows that it is gone into and out of.
func (m *runMaker) wind(deep int, known []string) string {
	m.winds++
	name := strconv.Itoa(m.winds)
	if !m.quiet && m.random.Intn(4) == 0 {
		return "(dynamic-wind " + m.thunk(deep-1, known) + " " + m.thunk(deep-1, known) + " " + m.thunk(deep-1, known) + ")"
	}
	return "(dynamic-wind (lambda () (display \"<" + name + " \")) " + m.thunk(deep-1, known) + " (lambda () (display \">" + name + " \")))"
}

func (m *runMaker) shown(text string) string {
	if m.quiet {
		return text
	}
	return "(display " + text + ")"
}

// again calls the cont that was kept, if any, but not without end.
func (m *runMaker) again(deep int, known []string) string {
	return "(if (< count " + m.oneOf("2", "3", "5") + ") (begin (set! count (+ count 1)) (if (procedure? k) (k " + m.part(deep, known) + "))))"
}

// with is what is known and one name more.
func with(known []string, name string) []string {
	return append(append([]string{}, known...), name)
}

func (m *runMaker) part(deep int, known []string) string {
	if deep <= 0 {
		return m.atom(known)
	}
	next := deep - 1
	name := m.oneOf("x", "y", "z", "x.1", "list", "k")
	inner := with(known, name)
	switch m.random.Intn(26) {
	case 0:
		return m.atom(known)
	case 1, 2:
		return m.shown(m.part(next, known))
	case 3:
		return "(" + m.oneOf("+", "-", "*", "<", "=") + " " + m.number(deep, known) + " " + m.number(deep, known) + ")"
	case 4:
		return "(" + m.oneOf("cons", "list", "eq?", "equal?") + m.kids(2, next, known) + ")"
	case 5:
		return "(" + m.oneOf("car", "cdr", "null?", "pair?", "not", "not", "procedure?", "error?", "make-parameter", "error-text") + " " + m.part(next, known) + ")"
	case 6:
		return "(if" + m.kids(2+m.random.Intn(2), next, known) + ")"
	case 7, 8:
		return "(begin" + m.kids(1+m.random.Intn(3), next, known) + ")"
	case 9:
		return "((lambda (" + name + ") " + m.part(next, inner) + ") " + m.part(next, known) + ")"
	case 10:
		return "((lambda (w . " + name + ") " + m.part(next, inner) + ")" + m.kids(m.random.Intn(4), next, known) + ")"
	case 11, 12:
		if m.random.Intn(2) == 0 {
			return "(call/cc (lambda (" + name + ") " + m.part(next, inner) + "))"
		}
		return "(call/cc (lambda (c) (begin (set! k c) " + m.part(next, known) + ")))"
	case 13:
		return m.again(next, known)
	case 14, 15:
		return m.wind(deep, known)
	}
	return m.otherPart(deep, known, inner, name)
}

// otherPart has what calls others.
func (m *runMaker) otherPart(deep int, known []string, inner []string, name string) string {
	next := deep - 1
	switch m.random.Intn(14) {
	case 0:
		return "(set! " + m.oneOf("g", "g", "g", "k", "nobody") + " " + m.part(next, known) + ")"
	case 1, 2:
		return m.again(next-1, known)
	case 3, 4:
		return m.wind(deep, known)
	case 5:
		return "(with-exception-handler (lambda (" + name + ") " + m.part(next, inner) + ") " + m.thunk(next, known) + ")"
	case 6:
		return "(call/cc (lambda (out) (with-exception-handler " + m.oneOf("out", "(lambda (e) (out "+m.part(next-1, with(known, "e"))+"))") + " " + m.thunk(next, known) + ")))"
	case 7:
		return "(" + m.oneOf("raise", "raise-continuable", "raise-continuable", "error \"bad\"") + " " + m.part(next, known) + ")"
	case 8:
		return "(with-parameter " + m.oneOf("p", "p", "p", "p", "p", "p", "1") + " " + m.part(next, known) + " " + m.thunk(next, known) + ")"
	case 9:
		return "(call-with-values " + m.thunk(next, known) + " " + m.oneOf("list", "values", "(lambda (. "+name+") "+m.part(next, inner)+")") + ")"
	case 10:
		return "(apply " + m.oneOf("list", "values", "+", "f", "f") + " " + m.oneOf("'()", "'(1)", "'(1)", "(list "+m.part(next, known)+")") + ")"
	case 11:
		return "(rec (" + name + " loop)" + m.kids(1, next-1, known) + " (lambda (n) (if (< n 1) " + m.part(next-1, inner) + " " + m.oneOf("(loop (- n 1))", "(+ 1 (loop (- n 1)))", "(begin (loop (- n 1)) "+m.part(next-1, inner)+")") + ")) (loop " + m.oneOf("1", "2", "4", "4", "30", "400") + "))"
	case 12:
		return "(values" + m.kids(m.random.Intn(3), next, known) + ")"
	}
	return "(" + m.oneOf("list", "f", "k", "call/cc", "(lambda (. r) r)", m.part(next, known)) + m.kids(m.random.Intn(3), next, known) + ")"
}
