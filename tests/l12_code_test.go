package tests

import (
	"math"
	"math/rand"
	"slices"
	"strconv"
	"strings"
	"testing"

	"loop.example/sispass/impl"
)

// checkRead holds CoreRead against what it is to answer, and what it reads against promise 15. It tells whether it is read.
func checkRead(t *testing.T, text string) bool {
	t.Helper()
	list, ok := impl.CoreRead(text)
	want, wantOk := readAgain(text)
	if ok != wantOk || !sameParts(list, want) {
		t.Errorf("CoreRead(%q): %+v %v; want %+v %v", text, list, ok, want, wantOk)
	}
	if ok {
		checkReadKeeps(t, text, list)
	}
	return ok
}

// checkReadKeeps is promise 15, in its own words.
func checkReadKeeps(t *testing.T, text string, list []impl.ExpCore) {
	t.Helper()
	if !impl.CoreOk(list) {
		t.Errorf("CoreRead(%q): %+v is not ok", text, list)
	}
	shown := shownLines(list)
	if len(shown) > impl.CoreMaxText {
		return
	}
	back, ok := impl.CoreRead(shown)
	if !ok || !sameParts(back, list) {
		t.Errorf("CoreRead(%q): %+v; shown %q it is read as %+v %v", text, list, shown, back, ok)
	}
	code, ok := impl.CoreFlat(list)
	if !ok || !sameCode(code, flatAgain(list)) {
		t.Errorf("CoreFlat of %q: %+v %v", text, code, ok)
	}
	for place, node := range code.Nodes {
		for _, kid := range node.Kids {
			if kid >= place {
				t.Errorf("CoreFlat of %q: %d has %d among its own parts", text, place, kid)
			}
		}
	}
}

// shownLines is a program as it is shown, with a newline behind each part of the whole.
func shownLines(list []impl.ExpCore) string {
	var text strings.Builder
	for _, c := range list {
		text.WriteString(impl.ExpCoreShow(c) + "\n")
	}
	return text.String()
}

// checkReads holds a text against the parts that it is to be.
func checkReads(t *testing.T, text string, want ...impl.ExpCore) {
	t.Helper()
	if list, ok := impl.CoreRead(text); !ok || !sameParts(list, want) {
		t.Errorf("CoreRead(%q): %+v %v; want %+v", text, list, ok, want)
	}
	checkRead(t, text)
}

func checkRefuses(t *testing.T, text string) {
	t.Helper()
	if list, ok := impl.CoreRead(text); ok || len(list) != 0 {
		t.Errorf("CoreRead(%q): %+v %v", text, list, ok)
	}
	checkRead(t, text)
}

func TestReadOfLiterals(t *testing.T) {
	ratio := nines + "/1" + strings.Repeat("0", 59)
	for _, text := range []string{
		"0", "7", "-7", "10", "1/2", "-1/2", "22/7", nines, "-" + nines, ratio, "-" + ratio,
		"#t", "#f",
		`""`, `" "`, `"a"`, `"(a . 'b)"`, `"!~"`, `"#t"`, `"` + strings.Repeat("x", 58) + `"`,
	} {
		checkReads(t, text, constant(text))
		checkReads(t, "'"+text, constant(text))
		checkReads(t, "(quote "+text+")", constant(text))
		checkReads(t, "'("+text+")", constant("'("+text+")"))
	}
}

// What NumParse reads, but NumPrint does not print so, is a name, if it is not too long.
func TestReadOfNumbersPrintedOtherwise(t *testing.T) {
	for _, text := range []string{
		"+1", "+0", "-0", "007", "-01", "00", "1.5", ".5", "5.", "2/4", "4/2", "0/5", "1/01", "1/1", "-2/2", "+1/2", "1/0", "0/0", "--1", "1/2/3", "1.", "a", "1a", "-", "+", "..",
	} {
		checkReads(t, text, ref(text))
		checkReads(t, "'"+text, constant("'"+text))
	}
	for _, text := range []string{"1" + nines, "-1" + nines, strings.Repeat("0", 61), "+" + nines, "1" + nines + "/7"} {
		checkRefuses(t, text)
		checkRefuses(t, "'"+text)
		checkRefuses(t, "'("+text+")")
	}
}

func TestReadOfWords(t *testing.T) {
	long := strings.Repeat("n", 60)
	for _, text := range []string{
		"x", "f.2", "set-car!", "call/cc", "x~1", "!", "~", "a#", "a#t", "t", "f", "if", "quote", "lambda", "define", "set!", "begin", "rec",
		"...", "..", ".a", "a.", "[", "]", "{}", "`", ",", ";", "\\", "a;b", "@", "*", "<", "=", long, strings.Repeat("1", 59) + "x",
	} {
		checkReads(t, text, ref(text))
		checkReads(t, "'"+text, constant("'"+text))
		checkReads(t, "'("+text+")", constant("'("+text+")"))
		checkReads(t, "(lambda ("+text+") "+text+")", lambda(names(text), ref(text)))
	}
	for _, text := range []string{
		".", "#", "#q", "#tt", "#t#f", "#T", "#true", "##", "#1", long + "n", "a\tb", "\t", "a\rb", "\x00", "a\x7f", "\x7f", "\xff", "é", "a\x80", "\v", "\x1f",
		`"`, `"a`, `"a"b"`, "\"a\nb\"", "\"\t\"", "\"\x7f\"", "\"\x80\"", "\"é\"", "\"\x00\"", `"` + strings.Repeat("x", 59) + `"`,
	} {
		checkRefuses(t, text)
		checkRefuses(t, "'"+text)
		checkRefuses(t, "'("+text+")")
		checkRefuses(t, "("+text+")")
		checkRefuses(t, "(lambda ("+text+") 1)")
		checkRefuses(t, "(set! "+text+" 1)")
		checkRefuses(t, "(f "+text+")")
	}
}

func TestReadOfWhatIsQuoted(t *testing.T) {
	for _, c := range []struct {
		datum, text string
	}{
		{"a", "'a"},
		{"if", "'if"},
		{"quote", "'quote"},
		{"()", "'()"},
		{"( )", "'()"},
		{"(())", "'(())"},
		{"(a)", "'(a)"},
		{"(a b 1 #t \"s\")", "'(a b 1 #t \"s\")"},
		{"((a) (b (c)) ())", "'((a) (b (c)) ())"},
		{"(a . b)", "'(a . b)"},
		{"(a b . 7)", "'(a b . 7)"},
		{"(a . \"s\")", "'(a . \"s\")"},
		{"(a . #f)", "'(a . #f)"},
		{"((a . b) . c)", "'((a . b) . c)"},
		{"(() . a)", "'(() . a)"},
		{"(\na\n. b )", "'(a . b)"},
		{"(a .\"s\")", "'(a . \"s\")"},
		{"(\"s\". a)", "'(\"s\" . a)"},
		{"((a). b)", "'((a) . b)"},
		{"(a .b)", "'(a .b)"},
		{"(a. b)", "'(a. b)"},
		{"(a.b)", "'(a.b)"},
		{"(a ... b)", "'(a ... b)"},
		{"'a", "'(quote a)"},
		{"'5", "'(quote 5)"},
		{"''a", "'(quote (quote a))"},
		{"'()", "'(quote ())"},
		{"('a 'b)", "'((quote a) (quote b))"},
		{"('a . b)", "'((quote a) . b)"},
		{"(quote a)", "'(quote a)"},
		{"(quote a b)", "'(quote a b)"},
		{"(quote)", "'(quote)"},
		{"(quote . a)", "'(quote . a)"},
		{"(if)", "'(if)"},
		{"(lambda x x)", "'(lambda x x)"},
		{"(define x)", "'(define x)"},
		{"(set! 1 2 3)", "'(set! 1 2 3)"},
		{"(rec () . a)", "'(rec () . a)"},
		{"(1 \"a\"b(c)d)", "'(1 \"a\" b (c) d)"},
	} {
		checkReads(t, "'"+c.datum, constant(c.text))
		checkReads(t, "(quote "+c.datum+")", constant(c.text))
		checkReads(t, "( quote\n"+c.datum+" )", constant(c.text))
		checkReads(t, "(f ' "+c.datum+")", call(ref("f"), constant(c.text)))
	}
	for _, datum := range []string{
		"(1 . (b))", "(1 . ())", "(1 . 'a)", "(1 . (a . b))", "(. a)", "(. (a))", "((. a))", "(a (b . (c)))",
		"(a . b c)", "(a . b . c)", "(a .)", "(. )", "(.)", "(a . .)", "(. . a)", "(a . b .)", ".", "(a . . b)",
		")", "(", "(a", "(a . b", "(a . ", "(a b))", "(a #q)", "(a . #q)", "(a . " + strings.Repeat("n", 61) + ")",
	} {
		checkRefuses(t, "'"+datum)
		checkRefuses(t, "(quote "+datum+")")
		checkRefuses(t, "(f '"+datum+")")
		checkRefuses(t, "'(a "+datum+" #q)")
	}
}

// With none, or more than one, behind it `quote` is what is called.
func TestReadOfQuoteOfAnotherLength(t *testing.T) {
	quote := ref("quote")
	checkReads(t, "(quote)", call(quote))
	checkReads(t, "(quote a b)", call(quote, ref("a"), ref("b")))
	checkReads(t, "(quote 1 '2 (if a b))", call(quote, constant("1"), constant("2"), choice(ref("a"), ref("b"))))
	checkReads(t, "(quote (quote) x)", call(quote, call(quote), ref("x")))
	for _, text := range []string{"(quote () ())", "(quote a . b)", "(quote . a)", "(quote . (a))", "(quote a #q)", "(quote a (if))", "(quote (define x 1) 2)", "(quote 1 (define x 1))", "'"} {
		checkRefuses(t, text)
	}
	checkReads(t, "('quote a)", call(constant("'quote"), ref("a")))
	checkReads(t, "((quote quote) a)", call(constant("'quote"), ref("a")))
	checkReads(t, "(\"quote\" a)", call(constant(`"quote"`), ref("a")))
}

func TestReadOfForms(t *testing.T) {
	a, b, one := ref("a"), ref("b"), constant("1")
	checkReads(t, "(if a b)", choice(a, b))
	checkReads(t, "(if a b 1)", choice(a, b, one))
	checkReads(t, "(begin a)", begin(a))
	checkReads(t, "(begin a b 1 a b)", begin(a, b, one, a, b))
	checkReads(t, "(set! a b)", set("a", b))
	checkReads(t, "(set! set! set!)", set("set!", ref("set!")))
	checkReads(t, "(set! +5 5)", set("+5", constant("5")))
	checkReads(t, "(define a b)", define("a", b))
	checkReads(t, "(define a (set! b \"s\"))", define("a", set("b", constant(`"s"`))))
	checkReads(t, "(lambda () a)", lambda(nil, a))
	checkReads(t, "(lambda (a) b)", lambda(names("a"), b))
	checkReads(t, "(lambda (a b) 1)", lambda(names("a", "b"), one))
	checkReads(t, "(lambda (a . b) 1)", restLambda(names("a", "b"), one))
	checkReads(t, "(lambda (c a . b) 1)", restLambda(names("c", "a", "b"), one))
	checkReads(t, "(lambda (. r) r)", restLambda(names("r"), ref("r")))
	checkReads(t, "(lambda(.r)r)", lambda(names(".r"), ref("r")))
	checkReads(t, "(lambda (lambda if quote) (if lambda if))", lambda(names("lambda", "if", "quote"), choice(ref("lambda"), ref("if"))))
	checkReads(t, "(rec (a) b a)", rec(names("a"), b, a))
	checkReads(t, "(rec (a b) 1 1 a)", rec(names("a", "b"), one, one, a))
	checkReads(t, "(rec (f) (lambda () 1) (f))", rec(names("f"), lambda(nil, one), call(ref("f"))))
	checkReads(t, "(a)", call(a))
	checkReads(t, "(a b 1)", call(a, b, one))
	checkReads(t, "(1 a)", call(one, a))
	checkReads(t, "(\"if\" a b)", call(constant(`"if"`), a, b))
	checkReads(t, "('if a b)", call(constant("'if"), a, b))
	checkReads(t, "('(a) 'b)", call(constant("'(a)"), constant("'b")))
	checkReads(t, "((lambda (a) a) b)", call(lambda(names("a"), a), b))
	checkReads(t, "((if a b) b)", call(choice(a, b), b))
	checkReads(t, "(a if begin define)", call(a, ref("if"), ref("begin"), ref("define")))
	checkReads(t, "; a", ref(";"), a) // No word begins a remark.
	// What is written with `'` is a list with the word `quote` ahead, also of names.
	checkReads(t, "(lambda 'a a)", lambda(names("quote", "a"), a))
	checkReads(t, "(rec 'a 1 1 a)", rec(names("quote", "a"), one, one, a))
	checkReads(t, "")
	checkReads(t, " \n\n ")
	checkReads(t, "a 1\n(a)", a, one, call(a))
	checkReads(t, "(define a 1)(define a 1)", define("a", one), define("a", one))
}

func TestReadRefuses(t *testing.T) {
	for _, text := range []string{
		"(", ")", "()", "(a", "a)", "((a)", "(a))", ")(", "(()", "( )", "(() a)", "(a ())",
		"(a . b)", "(. a)", "(a .)", "(a . b c)", "(. (a))", "(a . (b))", "(1 . ())", ".", "(. . a)", "(begin . a)", "(if a . b)", "(if a b . 1)", "(lambda (a) a . a)", "(quote a . b)", "(set! a . 1)", "(set! a 1 . 2)",
		"(if)", "(if a)", "(if a b 1 1)", "(if #q a)", "(if ())", "(if () a b)",
		"(begin)", "(begin ())",
		"(set!)", "(set! a)", "(set! a 1 1)", "(set! 1 1)", "(set! #t 1)", "(set! \"a\" 1)", "(set! (a) 1)", "(set! 'a 1)", "(set! () 1)", "(set! a ())",
		"(define)", "(define a)", "(define a 1 1)", "(define 1 2)", "(define #f 1)", "(define \"a\" 1)", "(define (a) 1)", "(define 'a 1)", "(define a (define b 1))",
		"(f (define a 1))", "(begin (define a 1))", "(if a (define a 1))", "(lambda () (define a 1))", "(rec (a) (define a 1) 1)", "(rec (a) 1 (define a 1))", "(set! a (define a 1))",
		"(lambda)", "(lambda ())", "(lambda (a))", "(lambda a a)", "(lambda 1 a)", "(lambda \"a\" a)", "(lambda () a a)", "(lambda (a) a a)",
		"(lambda (a a) a)", "(lambda (a . a) a)", "(lambda (a b a) a)", "(lambda (1) a)", "(lambda (a 1) a)", "(lambda (#t) a)", "(lambda (\"a\") a)", "(lambda ((a)) a)", "(lambda ('a) a)", "(lambda (()) a)",
		"(lambda (a . 1) a)", "(lambda (a . \"b\") a)", "(lambda (a . (b)) a)", "(lambda (a . ()) a)", "(lambda (a . 'b) a)", "(lambda (a . b c) a)", "(lambda (a .) a)", "(lambda (. a b) a)", "(lambda (.) a)", "(lambda (a . .) a)", "(lambda (a . b . c) a)", "(lambda . a)", "(lambda (a) . a)",
		"(rec)", "(rec ())", "(rec () 1)", "(rec (a))", "(rec (a) 1)", "(rec (a) 1 1 1)", "(rec (a b) 1 1)", "(rec a 1 1)", "(rec (a a) 1 1 1)", "(rec (1) 1 1)", "(rec ((a)) 1 1)", "(rec 'a 1 1)",
		"(rec (. a) 1 1)", "(rec (a . b) 1 1)", "(rec (a . b) 1 1 1)",
		"#q", "\"a", "(f \"a)", "(')", "(f ')", "(quote)x(", "a\tb", "(a\t)", "\r\n", "(a)\x00", "; (a",
	} {
		checkRefuses(t, text)
		checkRefuses(t, "1 "+text)
		checkRefuses(t, text+" 1")
		checkRefuses(t, "(begin "+text+" 1)")
	}
}

// Spaces and newlines wherever they may stand, and none where none are needed.
func TestReadOfBlanks(t *testing.T) {
	wide := "( lambda ( a . b ) ( if a ' ( 1 . b ) \"(s\" ) ) ( f ' a ' ' ( ) ) 7 "
	want := []impl.ExpCore{
		restLambda(names("a", "b"), choice(ref("a"), constant("'(1 . b)"), constant(`"(s"`))),
		call(ref("f"), constant("'a"), constant("'(quote ())")),
		constant("7"),
	}
	for _, text := range []string{
		wide,
		" \n \n" + strings.ReplaceAll(wide, " ", "  \n ") + "\n\n",
		strings.ReplaceAll(wide, " ", "\n"),
		"(lambda(a . b)(if a'(1 . b)\"(s\"))(f'a''())7",
		"(lambda (a . b) (if a '(1 . b) \"(s\"))\n(f 'a '(quote ()))\n7\n",
	} {
		checkReads(t, text, want...)
	}
	for _, c := range []struct {
		text string
		want []impl.ExpCore
	}{
		{"a'b", parts(ref("a"), constant("'b"))},
		{"a\"b\"c", parts(ref("a"), constant(`"b"`), ref("c"))},
		{"\"a\"\"b\"", parts(constant(`"a"`), constant(`"b"`))},
		{"(a)(b)", parts(call(ref("a")), call(ref("b")))},
		{"1(a)2", parts(constant("1"), call(ref("a")), constant("2"))},
		{"#t\"\"#f", parts(constant("#t"), constant(`""`), constant("#f"))},
		{"'a'b", parts(constant("'a"), constant("'b"))},
		{"'\"a\"b", parts(constant(`"a"`), ref("b"))},
		{"(a'b)", parts(call(ref("a"), constant("'b")))},
		{"'(a'b)", parts(constant("'(a (quote b))"))},
		{"'(a .\nb)", parts(constant("'(a . b)"))},
		{"a\nb", parts(ref("a"), ref("b"))},
		{"\"a  b\"", parts(constant(`"a  b"`))},
	} {
		checkReads(t, c.text, c.want...)
	}
}

// lengthened has spaces behind it, or within it at a place, so that it is just so long.
func lengthened(text string, at int, size int) string {
	return text[:at] + strings.Repeat(" ", size-len(text)) + text[at:]
}

func TestReadAtEightThousandBytes(t *testing.T) {
	for _, text := range []string{"", "a", "(a 1)", "'(a 1)", "(if a 1)(define b '(a . b))"} {
		for _, at := range []int{0, len(text) / 2, len(text)} {
			if text == "(if a 1)(define b '(a . b))" && at == len(text)/2 {
				at = len("(if a 1)")
			}
			just, more := lengthened(text, at, 8000), lengthened(text, at, 8001)
			if len(just) != impl.CoreMaxText || !checkRead(t, just) {
				t.Errorf("%q with spaces at %d is not read", text, at)
			}
			checkRefuses(t, more)
		}
	}
	// One constant as long as it may be. Shown with a newline behind it it is too long to be read.
	just := "'(" + strings.Repeat("a ", 3998) + "a)"
	checkReads(t, just, constant(just))
	checkRefuses(t, just+" ")
	checkRefuses(t, "'("+strings.Repeat("a ", 3998)+"ab)")
	checkRefuses(t, strings.Repeat(" ", 8001))
	checkRefuses(t, strings.Repeat("(", 1_000_000))
	checkRefuses(t, strings.Repeat("'", 8000))
	checkRefuses(t, strings.Repeat("(", 8000))
	checkRefuses(t, strings.Repeat(")", 8000))
	checkRefuses(t, strings.Repeat("\"", 7999))
	checkRefuses(t, strings.Repeat(".", 8000))
}

func TestReadOfTwoThousandParts(t *testing.T) {
	for _, c := range []struct {
		just, more string
	}{
		{strings.Repeat("1 ", 2000), strings.Repeat("1 ", 2001)},
		{"(" + strings.Repeat("f ", 1999) + ")", "(" + strings.Repeat("f ", 2000) + ")"},
		{strings.Repeat("(f)", 1000), strings.Repeat("(f)", 1000) + "1"},
		{strings.Repeat("(f 1)", 666) + "(f)", strings.Repeat("(f 1)", 667)},
		// What is quoted is one part, whatever it holds; and names are none.
		{"'(" + strings.Repeat("a ", 2500) + ")" + strings.Repeat("1 ", 1000), "'(" + strings.Repeat("a ", 2500) + ")" + strings.Repeat("1 ", 1000) + "()"},
		{"(define a 1)" + strings.Repeat("1 ", 1998), "(define a 1)" + strings.Repeat("1 ", 1999)},
	} {
		if !checkRead(t, c.just) || checkRead(t, c.more) {
			t.Errorf("%q..", c.just[:20])
		}
	}
}

func around(open string, times int, inner string, shut string) string {
	return strings.Repeat(open, times) + inner + strings.Repeat(shut, times)
}

func TestReadAtAHundredWithin(t *testing.T) {
	for _, c := range []struct {
		open, inner, shut string
		times             int
	}{
		{"(", "a", ")", 100},
		{"(", "(a)", ")", 99},
		{"(f ", "a", ")", 100},
		{"(begin ", "a", ")", 100},
		{"(begin ", "(begin a)", ")", 99},
		{"(begin ", "'a", ")", 99},   // The datum `a` is within the list of `quote` and it.
		{"(begin ", "''a", ")", 98},  // And within both of these.
		{"(begin ", "'(a)", ")", 98}, // And within its own list.
		{"(begin ", "'()", ")", 99},  //
		{"(begin ", "'(() 1)", ")", 98},
		{"(begin ", "'(a . b)", ")", 98},
		{"(begin ", "(quote a)", ")", 99},
		{"(begin ", "(quote 5)", ")", 99},
		{"(begin ", "'5", ")", 99},
		{"(begin ", "5", ")", 100},
		{"(begin ", "\"s\"", ")", 100},
		{"(if 1 ", "a", ")", 100},
		{"(set! x ", "a", ")", 100},
		{"(lambda () ", "a", ")", 100},
		{"(lambda () ", "(a)", ")", 99},
		{"(lambda (x) ", "a", ")", 99}, // A name is within its list and the one around that.
		{"(lambda (. x) ", "a", ")", 99},
		{"(rec (x) 1 ", "a", ")", 99},
		{"'(", "a", ")", 50}, // Two for each.
		{"(quote (", "a", "))", 50},
		{"'", "a", "", 100},
		{"''", "a", "", 50},
		{"(x '(", "a", "))", 33},
	} {
		just := around(c.open, c.times, c.inner, c.shut)
		more := around(c.open, c.times+1, c.inner, c.shut)
		if !checkRead(t, just) {
			t.Errorf("%s, %d times: not read", c.open, c.times)
		}
		checkRefuses(t, more)
	}
	for _, c := range []struct {
		open, inner, shut string
		times             int
	}{
		{"(", "a", ")", 99}, // Within the list of `quote`, and these.
		{"(", "()", ")", 99},
		{"(", "(a)", ")", 98},
		{"(", "(a . b)", ")", 98},
		{"(a ", "b", ")", 99},
		{"(a ", "'b", ")", 98},
		{"('a ", "b", ")", 98},
		{"(a . ", "b", ")", 1},
		{"((a . b) ", "1", ")", 98},
	} {
		just := around(c.open, c.times, c.inner, c.shut)
		more := around(c.open, c.times+1, c.inner, c.shut)
		if !checkRead(t, "'"+just) || !checkRead(t, "(quote "+just+")") {
			t.Errorf("quoted %s, %d times: not read", c.open, c.times)
		}
		checkRefuses(t, "'"+more)
		checkRefuses(t, "(quote "+more+")")
	}
	// With a call around there may be one less.
	if inner := around("(", 98, "a", ")"); !checkRead(t, "(f '"+inner+")") {
		t.Error("in a call")
	}
	checkRefuses(t, "(f '"+around("(", 99, "a", ")")+")")
}

// Texts of pieces that meet in every way.
func TestReadOfSomeTexts(t *testing.T) {
	random := rand.New(rand.NewSource(15))
	pieces := []string{"(", "(", "(", ")", ")", ")", ")", "'", ".", " . ", " ", "\n", " a ", "b", "a", "1", "-1/2", "#t", "\"s\"", "\"", "(if ", "(begin ", "(set! a ", "(define b ", "(lambda (a) ", "(lambda (", "(rec (a) ", "(rec (", "(quote ", "quote ", "()", "07", "#", "\t"}
	told := map[bool]int{}
	for range 60000 {
		var text strings.Builder
		for range 1 + random.Intn(12) {
			text.WriteString(pieces[random.Intn(len(pieces))])
		}
		told[checkRead(t, text.String())]++
		if t.Failed() {
			return
		}
	}
	if told[true] < 1000 || told[false] < 1000 {
		t.Errorf("too few of one kind: %v", told)
	}
}

// Programs as they are shown, with blanks more and less, and with a byte more, or less, or another one.
func TestReadOfSomePrograms(t *testing.T) {
	m := newMaker(151)
	told := map[bool]int{}
	for range 4000 {
		list := m.program()
		shown := shownLines(list)
		checkReads(t, shown, list...)
		for range 4 {
			told[checkRead(t, m.blanked(shown))]++
			told[checkRead(t, m.mistyped(shown))]++
		}
		if t.Failed() {
			return
		}
	}
	if told[true] < 1000 || told[false] < 1000 {
		t.Errorf("too few of one kind: %v", told)
	}
}

func (m maker) blanked(text string) string {
	at := m.random.Intn(len(text) + 1)
	return text[:at] + []string{" ", "\n", "\n  "}[m.random.Intn(3)] + text[at:]
}

func (m maker) mistyped(text string) string {
	signs := "()'\". a1#-/\n\t\x00\xff"
	at := m.random.Intn(len(text) + 1)
	sign := string(signs[m.random.Intn(len(signs))])
	if at == len(text) || m.random.Intn(3) == 0 {
		return text[:at] + sign + text[at:]
	}
	if m.random.Intn(2) == 0 {
		sign = ""
	}
	return text[:at] + sign + text[at+1:]
}

// checkOk holds CoreOk, and CoreFlat's word for it, against what they are to answer.
func checkOk(t *testing.T, list []impl.ExpCore, want bool) {
	t.Helper()
	before := cloneParts(list)
	if impl.CoreOk(list) != want || okAgain(list) != want {
		t.Errorf("CoreOk(%+v): %v; want %v (and %v)", list, !want, want, okAgain(list))
	}
	code, ok := impl.CoreFlat(list)
	if ok != want || !ok && (len(code.Nodes) > 0 || len(code.Tops) > 0) {
		t.Errorf("CoreFlat(%+v): %+v %v; want %v", list, code, ok, want)
	}
	if want && !sameCode(code, flatAgain(list)) {
		t.Errorf("CoreFlat(%+v): %+v", list, code)
	}
	if !sameParts(list, before) {
		t.Errorf("%+v is changed to %+v", before, list)
	}
}

// checkPartOk asks of a part alone, behind another one, and within others.
func checkPartOk(t *testing.T, c impl.ExpCore, want bool) {
	t.Helper()
	checkOk(t, parts(c), want)
	checkOk(t, parts(ref("x"), c), want)
	within := want && c.Sort != impl.CoreDefine
	checkOk(t, parts(begin(ref("x"), c)), within)
	checkOk(t, parts(call(c)), within)
	checkOk(t, parts(define("x", lambda(nil, choice(ref("x"), ref("x"), c)))), within)
	checkOk(t, parts(rec(names("x"), c, set("x", ref("x")))), within)
	checkOk(t, parts(rec(names("x"), set("x", ref("x")), c)), within)
}

// What a part has that its Sort has not makes it not ok.
func TestOkOfWhatAPartHas(t *testing.T) {
	x := ref("x")
	for _, c := range []struct {
		part                    impl.ExpCore
		text, rest, names, kids bool // Whether it may have these. (Kids are counted in TestOkOfHowManyKids.)
	}{
		{part: constant("1"), text: true},
		{part: ref("a"), text: true},
		{part: lambda(nil, x), names: true},
		{part: lambda(names("a"), x), rest: true, names: true},
		{part: restLambda(names("a"), x), names: true},
		{part: call(x), kids: true},
		{part: choice(x, x), kids: true},
		{part: set("a", x), text: true},
		{part: begin(x), kids: true},
		{part: rec(names("a"), x, x)},
		{part: define("a", x), text: true},
	} {
		checkPartOk(t, c.part, true)
		more := c.part
		more.Text = map[bool]string{true: "b", false: "a"}[c.part.Text == "a"]
		if c.part.Sort == impl.CoreConst {
			more.Text = "2"
		}
		checkPartOk(t, more, c.text)
		more = c.part
		more.Rest = true
		checkPartOk(t, more, c.rest || c.part.Rest)
		more = c.part
		more.Names = append(slices.Clone(more.Names), "b")
		checkPartOk(t, more, c.names)
		more = c.part
		more.Kids = append(slices.Clone(more.Kids), x)
		checkPartOk(t, more, c.kids)
	}
	for _, sort := range []int{0, 10, 11, -1, -5, math.MinInt, math.MaxInt} {
		checkPartOk(t, impl.ExpCore{Sort: sort}, false)
		checkPartOk(t, impl.ExpCore{Sort: sort, Text: "a"}, false)
		checkPartOk(t, impl.ExpCore{Sort: sort, Kids: parts(x)}, false)
		checkPartOk(t, impl.ExpCore{Sort: sort, Text: "a", Names: names("a"), Kids: parts(x, x)}, false)
	}
}

func TestOkOfHowManyKids(t *testing.T) {
	some := func(count int) []impl.ExpCore { return slices.Repeat(parts(ref("x")), count) }
	for count := range 8 {
		kids := some(count)
		checkPartOk(t, impl.ExpCore{Sort: impl.CoreConst, Text: "1", Kids: kids}, count == 0)
		checkPartOk(t, impl.ExpCore{Sort: impl.CoreRef, Text: "a", Kids: kids}, count == 0)
		checkPartOk(t, lambda(nil, kids...), count == 1)
		checkPartOk(t, lambda(names("a", "b"), kids...), count == 1)
		checkPartOk(t, restLambda(names("a"), kids...), count == 1)
		checkPartOk(t, restLambda(nil, kids...), false)
		checkPartOk(t, call(kids...), count >= 1)
		checkPartOk(t, begin(kids...), count >= 1)
		checkPartOk(t, choice(kids...), count == 2 || count == 3)
		checkPartOk(t, set("a", kids...), count == 1)
		checkPartOk(t, define("a", kids...), count == 1)
		checkPartOk(t, rec(nil, kids...), false)
		checkPartOk(t, rec(names("a"), kids...), count == 2)
		checkPartOk(t, rec(names("a", "b"), kids...), count == 3)
		checkPartOk(t, rec(names("a", "b", "c", "d"), kids...), count == 5)
	}
}

// checkNameOk asks of a text wherever a name stands.
func checkNameOk(t *testing.T, name string, want bool) {
	t.Helper()
	x := ref("x")
	for _, c := range []impl.ExpCore{
		ref(name), set(name, x), define(name, x), constant("'" + name), constant("'(" + name + ")"), constant("'(1 . " + name + ")"), constant("'(1 (" + name + ") 2)"),
		lambda(names(name), x), lambda(names("y", name), x), restLambda(names(name), x), restLambda(names("y", name), x), restLambda(names(name, "y"), x),
		rec(names(name), x, x), rec(names("y", name), x, x, x),
	} {
		checkPartOk(t, c, want)
	}
}

func TestOkOfNames(t *testing.T) {
	long := strings.Repeat("n", 60)
	for _, name := range []string{
		"a", "n.1", "!", "~", "if", "quote", "-", "+1", "007", "1.5", "2/4", "-0", "a#", "..", "...", ".a", "a.", "x'"[:1], long, strings.Repeat("0", 60), "$%&", "*+,-./", ":;<=>?@", "[\\]^_`{|}",
	} {
		checkNameOk(t, name, true)
	}
	for sign := range 256 {
		text := string([]byte{byte(sign)})
		good := sign >= 33 && sign <= 126 && !strings.Contains(`()"'`, text)
		first := good && sign != '#' && sign != '.' && (sign < '0' || sign > '9')
		for _, c := range []impl.ExpCore{ref(text), define(text, ref("x")), lambda(names(text), ref("x"))} {
			checkOk(t, parts(c), first)
		}
		checkOk(t, parts(ref("a"+text)), good)
		checkOk(t, parts(ref("a"+text+"b")), good)
	}
	for _, name := range []string{".", "#", "#a", "#t", "#f", long + "n", "(", ")", "'", "a b", "a\nb", "a(b", "a)b", "a'b", "a\"b", " a", "a ", "\x00", "a\x7f", "é", strings.Repeat("0", 61)} {
		checkOk(t, parts(ref(name)), false)
		checkOk(t, parts(define(name, ref("x"))), false)
		checkOk(t, parts(set(name, ref("x"))), false)
		checkOk(t, parts(lambda(names("y", name), ref("x"))), false)
		checkOk(t, parts(restLambda(names("y", name), ref("x"))), false)
		checkOk(t, parts(rec(names(name), ref("x"), ref("x"))), false)
		checkOk(t, parts(constant("'"+name)), false)
	}
	// What is no name, but a literal, may stand in a constant's list.
	for _, text := range []string{"0", "7", "-7", "1/2", nines, `"s"`, `""`, "#t", "#f"} {
		checkOk(t, parts(ref(text)), false)
		checkOk(t, parts(set(text, ref("x"))), false)
		checkOk(t, parts(lambda(names(text), ref("x"))), false)
		checkOk(t, parts(rec(names(text), ref("x"), ref("x"))), false)
		checkOk(t, parts(constant("'"+text)), false)
		checkOk(t, parts(constant(text)), true)
		checkOk(t, parts(constant("'("+text+" . "+text+")")), true)
	}
	for _, c := range []impl.ExpCore{ref(""), set("", ref("x")), define("", ref("x")), lambda(names(""), ref("x")), lambda(names("a", ""), ref("x")), rec(names(""), ref("x"), ref("x")), constant("'"), constant("")} {
		checkPartOk(t, c, false)
	}
}

func TestOkOfNamesThatAreTheSame(t *testing.T) {
	x := ref("x")
	checkPartOk(t, lambda(names("a", "b"), x), true)
	checkPartOk(t, lambda(names("a", "a"), x), false)
	checkPartOk(t, lambda(names("a", "b", "a"), x), false)
	checkPartOk(t, lambda(names("b", "a", "a"), x), false)
	checkPartOk(t, restLambda(names("a", "b"), x), true)
	checkPartOk(t, restLambda(names("a", "a"), x), false)
	checkPartOk(t, rec(names("a", "b"), x, x, x), true)
	checkPartOk(t, rec(names("a", "a"), x, x, x), false)
	checkPartOk(t, rec(names("a", "b", "a"), x, x, x, x), false)
	// The same in two parts, one within the other or not.
	checkPartOk(t, lambda(names("a"), lambda(names("a"), x)), true)
	checkPartOk(t, begin(lambda(names("a"), x), lambda(names("a"), x)), true)
	checkOk(t, parts(define("a", x), define("a", x), set("a", x)), true)
	many := make([]string, 3000)
	for i := range many {
		many[i] = "n" + strconv.Itoa(i)
	}
	checkPartOk(t, lambda(many, x), true)
	many[2999] = many[0]
	checkPartOk(t, lambda(many, x), false)
}

func TestOkOfConstants(t *testing.T) {
	long, ratio := strings.Repeat("x", 58), nines+"/"+nines[1:]+"8"
	for _, text := range []string{
		"0", "-1", "1/2", "-22/7", nines, "-" + nines, ratio, "-" + ratio, "#t", "#f", `""`, `"a b"`, `"'"`, `"` + long + `"`,
		"'a", "'()", "'(())", "'(a)", "'(a b)", "'(a . b)", "'(a b . c)", "'((a) . b)", "'(() . b)", "'(a (b) c)", "'(a (b . c) . d)", "'(1 #t \"s (\" . -1/2)", "'(quote a)", "'(quote)", "'(lambda x)", "'(\" \")", "'(007 +1)", "'(a ... b)",
	} {
		checkPartOk(t, constant(text), true)
	}
	for _, text := range []string{
		"", "a", "+1", "-0", "01", "2/4", "1.0", "1/1", "1" + nines, "#", "#q", "#t ", " #t", " 1", "1 ", "1\n", "1 2",
		`"`, `"a`, `a"`, `"a"b"`, `"a""b"`, "\"\n\"", "\"\x7f\"", "\"\x1f\"", "\"\x80\"", `"` + long + `x"`, `"a" `, ` "a"`, "\"a'",
		"'", "''", "''a", "'5", "'#t", "'\"s\"", "' a", "'a ", "'a b", "'a\n", " 'a", "'.", "'#a", "'a'b", "'(a", "'a)", "'(a))", "')", "'(",
		"'( )", "'( a)", "'(a )", "'(a  b)", "'(a\nb)", "'(a b) ", " '(a b)", "' (a b)", "'(a(b))", "'((a)b)", "'((a)(b))", "'(a\"s\")", "'(\"s\"a)", "'(a b)c", "'(a) (b)", "'(a)(b)", "'()()",
		"'(a .b . c d)", "'(a . b c)", "'(a . b . c)", "'(a .)", "'(a . )", "'(.)", "'(. )", "'(a . .)", "'(. . a)", "'(. a)", "'( . a)", "'(a  . b)", "'(a .  b)", "'(a . b )", "'(a . b", "'(a . b))", "'(a\n. b)",
		"'(a . (b))", "'(a . ())", "'(a . (b . c))", "'(a . 'b)", "'('a)", "'(a 'b)", "'(a '())", "'((. a))", "'(a (b . (c)))", "'(a . b)\n",
		"'(#q)", "'(a #)", "'(a . #q)", "'(" + strings.Repeat("n", 61) + ")", "'(" + "1" + nines + ")", "'(\"" + long + "x\")", "'(a\tb)", "'(a\x00)", "'(\x80)",
		"(a)", "()", "(quote a)", "\x00", "'\x00", "'(\"a)", "'(\"a\nb\")",
	} {
		checkPartOk(t, constant(text), false)
	}
	// A constant may be longer than a text, and hold more than there may be parts.
	checkPartOk(t, constant("'("+strings.Repeat("a ", 20000)+"b)"), true)
	checkPartOk(t, constant("'("+strings.Repeat("a ", 20000)+"b )"), false)
}

// A list within more than a hundred others is none, so it is not in a constant.
func TestOkOfDeepConstants(t *testing.T) {
	checkOk(t, parts(constant("'"+around("(", 100, "a", ")"))), true)
	checkOk(t, parts(constant("'"+around("(", 101, "a", ")"))), false)
	checkOk(t, parts(constant("'"+around("(", 100, "()", ")"))), true)
	checkOk(t, parts(constant("'"+around("(", 101, "()", ")"))), false)
	checkOk(t, parts(nest(constant("'"+around("(", 100, "a", ")")), 100)), true)
	if impl.CoreOk(parts(constant("'"+strings.Repeat("(", veryDeep)))) || impl.CoreOk(parts(constant("'"+around("(", veryDeep, "a", ")")))) || impl.CoreOk(parts(constant(strings.Repeat("'", veryDeep)))) {
		t.Error("very deep")
	}
}

func TestOkOfHowDeep(t *testing.T) {
	x := ref("x")
	checkOk(t, parts(nest(x, 100)), true)
	checkOk(t, parts(nest(x, 101)), false)
	checkOk(t, parts(x, nest(x, 101), x), false)
	checkOk(t, parts(define("a", nest(x, 99))), true)
	checkOk(t, parts(define("a", nest(x, 100))), false)
	checkOk(t, parts(begin(x, nest(x, 99), x)), true)
	checkOk(t, parts(begin(x, nest(x, 100), x)), false)
	deep := x
	for i := range 100 {
		deep = []impl.ExpCore{lambda(names("a"), deep), call(x, deep), choice(x, x, deep), set("a", deep), rec(names("a"), deep, x)}[i%5]
	}
	checkOk(t, parts(deep), true)
	checkOk(t, parts(set("a", deep)), false)
}

func TestOkOfHowMany(t *testing.T) {
	x := ref("x")
	checkOk(t, nil, true)
	checkOk(t, parts(), true)
	checkOk(t, slices.Repeat(parts(x), 2000), true)
	checkOk(t, slices.Repeat(parts(x), 2001), false)
	checkOk(t, parts(call(slices.Repeat(parts(x), 1999)...)), true)
	checkOk(t, parts(call(slices.Repeat(parts(x), 2000)...)), false)
	checkOk(t, slices.Repeat(parts(call(x)), 1000), true)
	checkOk(t, append(slices.Repeat(parts(call(x)), 1000), x), false)
	checkOk(t, append(slices.Repeat(parts(call(call(x))), 666), call(x)), true)
	checkOk(t, slices.Repeat(parts(call(call(x))), 667), false)
	checkOk(t, parts(begin(slices.Repeat(parts(nest(x, 98)), 20)...)), true) // 1981 parts
	checkOk(t, parts(begin(slices.Repeat(parts(nest(x, 98)), 20)...), begin(slices.Repeat(parts(x), 18)...)), true)
	checkOk(t, parts(begin(slices.Repeat(parts(nest(x, 98)), 20)...), begin(slices.Repeat(parts(x), 19)...)), false)
}

func TestOkOfDefines(t *testing.T) {
	x, d := ref("x"), define("a", ref("x"))
	checkOk(t, parts(d), true)
	checkOk(t, parts(x, d, d, x), true)
	for _, c := range []impl.ExpCore{
		define("b", d), begin(d), begin(x, d), call(d), call(x, d), choice(d, x), choice(x, d), choice(x, x, d), set("a", d), lambda(nil, d), lambda(names("a"), d), rec(names("a"), d, x), rec(names("a"), x, d), begin(begin(d)),
	} {
		checkOk(t, parts(c), false)
		checkOk(t, parts(x, c, x), false)
	}
}

// One part that is not ok is enough, wherever it stands.
func TestOkOfOneBrokenPart(t *testing.T) {
	m := newMaker(12)
	for range 3000 {
		list := m.program()
		checkOk(t, list, true)
		count := countAgain(list)
		if count == 0 {
			continue
		}
		at := m.random.Intn(count)
		eachPart(list, func(c *impl.ExpCore) {
			if at == 0 {
				*c = []impl.ExpCore{{}, ref("1"), constant("a"), call(), lambda(names("a")), {Sort: 10, Text: "a"}}[m.random.Intn(6)]
			}
			at--
		})
		checkOk(t, list, false)
	}
}

func TestOkOfSpoiltPrograms(t *testing.T) {
	m := newMaker(121)
	told := map[bool]int{}
	for range 30000 {
		list := m.program()
		for range m.random.Intn(3) {
			m.spoil(list)
		}
		want := okAgain(list)
		told[want]++
		checkOk(t, list, want)
		if t.Failed() {
			return
		}
	}
	if told[true] < 1000 || told[false] < 1000 {
		t.Errorf("too few of one kind: %v", told)
	}
}

// Parts that are in themselves, and parts that share theirs so that they are without number, are answered.
func TestOkOfEndlessParts(t *testing.T) {
	ring := parts(begin())
	ring[0].Kids = ring
	wide := parts(begin())
	wide[0].Kids = parts(wide[0], wide[0])
	shared := ref("x")
	for range 90 {
		shared = call(shared, shared)
	}
	deep := nest(ref("x"), veryDeep)
	for i, list := range [][]impl.ExpCore{ring, wide, parts(shared), parts(deep), slices.Repeat(parts(shared), 3)} {
		code, ok := impl.CoreFlat(list)
		if impl.CoreOk(list) || ok || len(code.Nodes) > 0 || len(code.Tops) > 0 {
			t.Errorf("case %d", i)
		}
	}
}

func TestFlatValues(t *testing.T) {
	for _, c := range []struct {
		text string
		want impl.CoreCode
	}{
		{"", impl.CoreCode{}},
		{"a", impl.CoreCode{Nodes: []impl.CoreNode{{Sort: 2, Text: "a"}}, Tops: []int{0}}},
		{"a 1 'b", impl.CoreCode{Nodes: []impl.CoreNode{{Sort: 2, Text: "a"}, {Sort: 1, Text: "1"}, {Sort: 1, Text: "'b"}}, Tops: []int{0, 1, 2}}},
		{"(f (if 1 x)) 2", impl.CoreCode{
			Nodes: []impl.CoreNode{{Sort: 2, Text: "f"}, {Sort: 1, Text: "1"}, {Sort: 2, Text: "x"}, {Sort: 5, Kids: []int{1, 2}}, {Sort: 4, Kids: []int{0, 3}}, {Sort: 1, Text: "2"}},
			Tops:  []int{4, 5},
		}},
		{"(define f (lambda (a . b) (begin (set! a b)))) (rec (g h) 1 2 (h))", impl.CoreCode{
			Nodes: []impl.CoreNode{
				{Sort: 2, Text: "b"}, {Sort: 6, Text: "a", Kids: []int{0}}, {Sort: 7, Kids: []int{1}}, {Sort: 3, Rest: true, Names: names("a", "b"), Kids: []int{2}}, {Sort: 9, Text: "f", Kids: []int{3}},
				{Sort: 1, Text: "1"}, {Sort: 1, Text: "2"}, {Sort: 2, Text: "h"}, {Sort: 4, Kids: []int{7}}, {Sort: 8, Names: names("g", "h"), Kids: []int{5, 6, 8}},
			},
			Tops: []int{4, 9},
		}},
	} {
		list, ok := impl.CoreRead(c.text)
		if !ok {
			t.Fatal(c.text)
		}
		if code, ok := impl.CoreFlat(list); !ok || !sameCode(code, c.want) {
			t.Errorf("CoreFlat of %q: %+v %v; want %+v", c.text, code, ok, c.want)
		}
	}
}

// Lists of the answer share nothing with each other, nor with what was handed in, spare room included.
func TestFlatSharesNothing(t *testing.T) {
	room := names("a", "b", "spare")
	kids := parts(ref("x"), ref("y"), ref("spare"))
	same := rec(room[:2], kids[:3]...)
	list := parts(same, same, lambda(room[:1], same), begin(kids[:2]...))
	before := cloneParts(list)
	code, ok := impl.CoreFlat(list)
	if !ok {
		t.Fatal("not ok")
	}
	want := flatAgain(before)
	for place := range code.Nodes {
		spoilTexts(code.Nodes[place].Names)
		spoilNumbers(code.Nodes[place].Kids)
		code.Nodes[place].Names, code.Nodes[place].Kids = want.Nodes[place].Names, want.Nodes[place].Kids
		if !sameCode(code, want) || !sameParts(list, before) || room[2] != "spare" {
			t.Fatalf("place %d shares its lists", place)
		}
	}
	spoilNumbers(code.Tops)
	if !slices.EqualFunc(code.Nodes, want.Nodes, func(a, b impl.CoreNode) bool { return a.Sort == b.Sort && a.Text == b.Text }) {
		t.Error("Tops are shared")
	}
}

func spoilTexts(list []string) {
	list = list[:cap(list)]
	for i := range list {
		list[i] = "spoilt"
	}
}

func spoilNumbers(list []int) {
	list = list[:cap(list)]
	for i := range list {
		list[i] = -7
	}
}

// Lists that CoreRead answers share nothing with each other either.
func TestReadSharesNothing(t *testing.T) {
	text := "(rec (a b) (lambda (a . b) (quote a b)) 'a (if a b 1)) (rec (a b) 1 1 (begin (a b) (quote)))"
	list, _ := impl.CoreRead(text)
	want, ok := readAgain(text)
	if !ok || !sameParts(list, want) {
		t.Fatalf("%+v", list)
	}
	eachPart(list, func(c *impl.ExpCore) {
		spoilTexts(c.Names)
		kids := c.Kids[:cap(c.Kids)]
		for i := range kids {
			kids[i] = impl.ExpCore{Sort: -7}
		}
		// From within to around: so far all that was spoilt is put back by its own part.
		*c = impl.ExpCore{Sort: c.Sort, Text: c.Text, Rest: c.Rest}
	})
	tops := parts(impl.ExpCore{Sort: 8}, impl.ExpCore{Sort: 8})
	if !sameParts(list, tops) {
		t.Errorf("%+v", list)
	}
	again, ok := impl.CoreRead(text)
	if !ok || !sameParts(again, want) {
		t.Errorf("read again: %+v", again)
	}
}
