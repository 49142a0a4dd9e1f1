package tests

import (
	"maps"
	"math"
	"math/big"
	"reflect"
	"slices"
	"strconv"
	"strings"
	"testing"

	"loop.example/sispass/impl"
)

func TestCorePrims(t *testing.T) {
	want := names(
		"*", "+", "-", "/", "<", "=", "apply", "call-with-values", "call/cc", "car", "cdr", "cons", "display", "dynamic-wind", "eq?", "equal?",
		"error", "error-list", "error-text", "error?", "list", "make-parameter", "modulo", "newline", "not", "null?", "number?", "pair?",
		"procedure?", "quotient", "raise", "raise-continuable", "set-car!", "set-cdr!", "symbol?", "values", "with-exception-handler", "with-parameter",
	)
	if len(want) != len(plainTakes)+len(callsOthers) || !slices.IsSorted(want) {
		t.Fatal(len(want))
	}
	for range 3 {
		prims := impl.CorePrims()
		if !slices.Equal(prims, want) {
			t.Errorf("%q", prims)
		}
		spoilTexts(prims)
	}
	for _, name := range want {
		_, isPlain := plainTakes[name]
		if isPlain == slices.Contains(callsOthers, name) {
			t.Errorf("%s", name)
		}
	}
}

// checkPlain holds CorePlain against what it is to answer and against promise 16, and that it touches nothing that is handed in. It tells the code.
func checkPlain(t *testing.T, s impl.CoreState, name string, list ...impl.Val) int {
	t.Helper()
	s, list = withRoom(s), withRoom(list)
	stateBefore, valsBefore := toTheEnd(s), toTheEnd(list)
	after, v, code := impl.CorePlain(s, name, list)
	wantAfter, wantV, wantCode := plainAgain(s, name, list)
	if v != wantV || code != wantCode {
		t.Errorf("%s of %+v: %+v %d; want %+v %d", name, list, v, code, wantV, wantCode)
	}
	if !sameAs(after, wantAfter) {
		t.Errorf("%s of %+v: the state is %+v; want %+v", name, list, after, wantAfter)
	}
	if !sameAs(toTheEnd(s), stateBefore) || !sameAs(toTheEnd(list), valsBefore) {
		t.Errorf("%s of %+v changed what was handed in", name, list)
	}
	checkPlainKeeps(t, s, after, v, code)
	return code
}

// checkPlainKeeps is promise 16, in its own words, but for `cons`.
func checkPlainKeeps(t *testing.T, before impl.CoreState, after impl.CoreState, v impl.Val, code int) {
	t.Helper()
	if code != 0 && (!sameAs(after, before) || v != (impl.Val{})) {
		t.Errorf("with the code %d the state is %+v, the value %+v", code, after, v)
	}
	after.Pairs, after.Params, after.Out, after.Stop = before.Pairs, before.Params, before.Out, before.Stop
	if !sameAs(after, before) {
		t.Errorf("more is changed: %+v was %+v", after, before)
	}
}

// checkGives asks of a state of which nothing may become another, in which the value is.
func checkGives(t *testing.T, s impl.CoreState, want impl.Val, name string, list ...impl.Val) {
	t.Helper()
	checkPlain(t, s, name, list...)
	after, v, code := impl.CorePlain(s, name, list)
	if v != want || code != 0 || !sameAs(after, s) {
		t.Errorf("%s of %+v: %+v %d; want %+v", name, list, v, code, want)
	}
}

func checkGivesCode(t *testing.T, s impl.CoreState, want int, name string, list ...impl.Val) {
	t.Helper()
	if code := checkPlain(t, s, name, list...); code != want {
		t.Errorf("%s of %+v: code %d; want %d", name, list, code, want)
	}
}

// goodVals are values, so many, that a name takes.
func goodVals(name string, count int) []impl.Val {
	list := many(num("1"), count)
	switch name {
	case "car", "cdr", "set-car!", "set-cdr!":
		if count > 0 {
			list[0] = placed(impl.ValPair, 0)
		}
	case "error-text", "error-list":
		if count > 0 {
			list[0] = placed(impl.ValError, 0)
		}
	}
	return list
}

// Just as many as a name takes, one fewer and one more.
func TestPlainTakes(t *testing.T) {
	s := someState()
	for name, takes := range plainTakes {
		for _, count := range []int{0, takes[0], takes[0] + 1, takes[1] - 1, takes[1]} {
			if count >= takes[0] && count <= takes[1] {
				checkGivesCode(t, s, 0, name, goodVals(name, count)...)
			}
		}
		if takes[0] > 0 {
			checkGivesCode(t, s, 3, name, goodVals(name, takes[0]-1)...)
		}
		checkGivesCode(t, s, 3, name, goodVals(name, takes[1]+1)...)
		checkGivesCode(t, s, 3, name, goodVals(name, takes[1]+1000)...)
	}
}

// Names that call others, and names that are none.
func TestPlainOfOtherNames(t *testing.T) {
	s := someState()
	for _, name := range append(names("", "if", "quote", "+ ", "CAR", "ca", "cars", "eq", "null", "\xff", "set!", ">", "<=", "append", "length"), callsOthers...) {
		for count := range 4 {
			checkGivesCode(t, s, 1, name, many(num("1"), count)...)
			checkGivesCode(t, s, 1, name, many(prim("car"), count)...)
		}
		checkGivesCode(t, s, 1, name, many(num("1"), 100)...)
	}
}

// A value that is none of the state, and a Car or Cdr of Pairs that is none, come ahead of all other codes.
func TestPlainOfNoState(t *testing.T) {
	for name, takes := range plainTakes {
		for _, wrong := range []impl.Val{{}, {Kind: 13, Text: "1"}, {Kind: -1}, placed(impl.ValPair, 2), placed(impl.ValPair, -1), placed(impl.ValClosure, 2), placed(impl.ValCont, 2), placed(impl.ValParam, -1), placed(impl.ValError, 2)} {
			s := someState()
			for _, count := range []int{1, takes[0], takes[1], takes[1] + 1} {
				for _, at := range []int{0, count - 1} {
					list := goodVals(name, max(count, 1))
					list[max(at, 0)] = wrong
					checkGivesCode(t, s, 1, name, list...)
				}
			}
			for _, at := range []int{0, 1} {
				s.Pairs[at].Car = wrong
				checkGivesCode(t, s, 1, name, goodVals(name, takes[0])...)
				checkGivesCode(t, s, 1, name, goodVals(name, takes[1]+1)...)
				s.Pairs[at] = impl.CorePair{Car: null, Cdr: wrong}
				checkGivesCode(t, s, 1, name, goodVals(name, takes[0])...)
				s.Pairs[at].Cdr = null
				checkGivesCode(t, s, 0, name, goodVals(name, takes[0])...)
			}
		}
		// With a wrong number of values it is not looked at what they are.
		checkGivesCode(t, someState(), 3, name, many(none, takes[1]+1)...)
	}
	// Elsewhere in the state it is no matter.
	s := someState()
	s.Errors[0].List, s.Params[0] = placed(99, 99), placed(-1, -1)
	s.Vals, s.Cells, s.Frames = vals(impl.Val{}), vals(impl.Val{}), []impl.CoreFrame{{Vals: vals(impl.Val{})}}
	checkGives(t, s, num("2"), "+", num("1"), num("1"))
	checkGives(t, s, placed(99, 99), "error-list", placed(impl.ValError, 0))
	checkGives(t, s, str("bad"), "error-text", placed(impl.ValError, 0))
}

func numbers(texts ...string) []impl.Val {
	var list []impl.Val
	for _, text := range texts {
		list = append(list, num(text))
	}
	return list
}

func TestPlainOfNumbers(t *testing.T) {
	s := someState()
	for _, c := range []struct {
		name  string
		texts []string
		want  string
	}{
		{"+", names(), "0"},
		{"+", names("5"), "5"},
		{"+", names("1", "2", "3"), "6"},
		{"+", names("1/2", "1/3", "-5/6"), "0"},
		{"+", names(nines, "-1"), nines[:59] + "8"},
		{"*", names(), "1"},
		{"*", names("-5"), "-5"},
		{"*", names("2", "3", "-4"), "-24"},
		{"*", names("2/3", "3/2"), "1"},
		{"*", names("0", nines), "0"},
		{"-", names("3"), "-3"},
		{"-", names("-3"), "3"},
		{"-", names("0"), "0"},
		{"-", names("1/2"), "-1/2"},
		{"-", names("9", "3"), "6"},
		{"-", names("9", "3", "1"), "5"},
		{"-", names("3", "9"), "-6"},
		{"-", names("-" + nines), nines},
		{"/", names("4"), "1/4"},
		{"/", names("-4"), "-1/4"},
		{"/", names("1"), "1"},
		{"/", names("-2/3"), "-3/2"},
		{"/", names("6", "4"), "3/2"},
		{"/", names("24", "3", "4"), "2"},
		{"/", names("0", "5"), "0"},
		{"/", names("1", "-2"), "-1/2"},
		{"/", names("1/" + nines), nines},
		{"quotient", names("7", "2"), "3"},
		{"quotient", names("-7", "2"), "-3"},
		{"quotient", names("7", "-2"), "-3"},
		{"quotient", names("-7", "-2"), "3"},
		{"quotient", names("1", "2"), "0"},
		{"quotient", names("-1", "2"), "0"},
		{"quotient", names("0", "-2"), "0"},
		{"quotient", names(nines, "-1"), "-" + nines},
		{"modulo", names("7", "2"), "1"},
		{"modulo", names("-7", "2"), "1"},
		{"modulo", names("7", "-2"), "-1"},
		{"modulo", names("-7", "-2"), "-1"},
		{"modulo", names("6", "-2"), "0"},
		{"modulo", names("0", "-2"), "0"},
		{"modulo", names("-1", nines), nines[:59] + "8"},
	} {
		checkGives(t, s, num(c.want), c.name, numbers(c.texts...)...)
	}
	checkGives(t, s, num("99"), "+", many(num("1"), 99)...)
	checkGives(t, s, num("-97"), "-", many(num("1"), 99)...)
	checkGives(t, s, num("-1"), "*", many(num("-1"), 99)...)
	checkGives(t, s, num("1"), "/", many(num("-1"), 98)...)
}

func TestPlainOfOrder(t *testing.T) {
	s := someState()
	for _, c := range []struct {
		texts []string
		same  impl.Val
		less  impl.Val
	}{
		{names("1"), yes, yes},
		{names("1", "1"), yes, no},
		{names("1", "2"), no, yes},
		{names("2", "1"), no, no},
		{names("1", "2", "3"), no, yes},
		{names("1", "2", "2"), no, no},
		{names("2", "2", "1"), no, no},
		{names("1", "3", "2"), no, no},
		{names("3", "1", "2"), no, no},
		{names("1", "2", "1"), no, no},
		{names("1/2", "1/2", "1/2"), yes, no},
		{names("-1", "-1/2", "0", "1/2"), no, yes},
		{names("-1", "1"), no, yes},
		{names("1/3", "1/2"), no, yes},
		{names(nines[:59]+"8", nines), no, yes},
		{names("-"+nines, "-"+nines), yes, no},
	} {
		checkGives(t, s, c.same, "=", numbers(c.texts...)...)
		checkGives(t, s, c.less, "<", numbers(c.texts...)...)
	}
	ascending := make([]impl.Val, 99)
	for i := range ascending {
		ascending[i] = num(strconv.Itoa(i))
	}
	checkGives(t, s, yes, "<", ascending...)
	ascending[98] = num("97")
	checkGives(t, s, no, "<", ascending...)
	checkGives(t, s, yes, "=", many(num("7"), 99)...)
}

var ofNumbersOnly = names("+", "*", "-", "/", "quotient", "modulo", "=", "<")

// One that must be a number and is none: another Kind, or a text that no number prints.
func TestPlainOfWhatIsNoNumber(t *testing.T) {
	s := someState()
	wrong := []impl.Val{yes, str("1"), sym("1"), null, placed(impl.ValPair, 0), placed(impl.ValClosure, 0), prim("1"), placed(impl.ValCont, 0), none, placed(impl.ValParam, 0), placed(impl.ValError, 0)}
	for _, text := range names("", "x", "+1", "01", "-0", "1.5", "1.", ".5", "2/4", "4/2", "3/1", "1/0", "0/1", "--1", " 1", "1 ", "1\n", "a", "ff", "1e2", "#t", nines+"9", "1/1"+strings.Repeat("0", 60), strings.Repeat("0", 241), "\xff", "١") {
		wrong = append(wrong, num(text))
	}
	for _, name := range ofNumbersOnly {
		for _, v := range wrong {
			if plainTakes[name][0] < 2 {
				checkGivesCode(t, s, 2, name, v)
			}
			checkGivesCode(t, s, 2, name, num("1"), v)
			checkGivesCode(t, s, 2, name, v, num("1"))
			checkGivesCode(t, s, 2, name, v, num("0"))
			checkGivesCode(t, s, 3, name, append(many(num("1"), 99), v)...)
			if plainTakes[name][1] == 99 {
				checkGivesCode(t, s, 2, name, append(many(num("1"), 98), v)...)
				checkGivesCode(t, s, 2, name, num("2"), num("1"), v) // Also where it is known ahead of it.
			}
		}
	}
	// They are numbers by their Kind all the same, and At says nothing.
	checkGives(t, s, yes, "number?", num("x"))
	checkGives(t, s, num("2"), "+", impl.Val{Kind: impl.ValNumber, Text: "1", At: -7}, impl.Val{Kind: impl.ValNumber, Text: "1", At: 99})
}

// Numbers are looked at all first, then reckoned from the left, and the first code counts.
func TestPlainOfWhatCannotBeReckoned(t *testing.T) {
	s := someState()
	big, tiny := nines, "1/"+nines
	for _, c := range []struct {
		code  int
		name  string
		texts []string
	}{
		{2, "/", names("0")},
		{2, "/", names("1", "0")},
		{2, "/", names("0", "0")},
		{2, "/", names("1", "2", "0")},
		{2, "/", names("1", "0", "2")},
		{2, "quotient", names("1", "0")},
		{2, "modulo", names("1", "0")},
		{2, "quotient", names("0", "0")},
		{2, "modulo", names("0", "0")},
		{2, "quotient", names("1/2", "2")},
		{2, "quotient", names("2", "1/2")},
		{2, "modulo", names("1/2", "2")},
		{2, "modulo", names("2", "-1/2")},
		{2, "quotient", names("1/2", "0")},
		{2, "modulo", names("1/2", "0")},
		{4, "+", names(big, "1")},
		{4, "+", names("-"+big, "-1")},
		{4, "+", names(big, "1", "-1")}, // From the left, though in all it would not be.
		{0, "+", names(big, "-1", "1")},
		{4, "-", names("-"+big, "1")},
		{0, "-", names(big, "1")},
		{4, "-", names("-"+big, "1", "-1")},
		{4, "*", names(big, "2")},
		{4, "*", names(big, "2", "0")},
		{0, "*", names(big, "0", "2")},
		{0, "*", names(big, tiny, "2")},
		{4, "*", names(tiny, "1/2")},
		{4, "/", names(big, tiny)},
		{4, "/", names(tiny, "2")},
		{0, "/", names(tiny)},
		{4, "/", names(tiny, "2", "0")},
		{2, "/", names(tiny, "0", "2")},
		{4, "/", names(tiny, big, "0")},
		{2, "/", names(tiny, "1", "0", "2")},
		{2, "*", names(big, "2", "x")},
		{2, "+", names(big, "1", "x")},
		{2, "/", names(tiny, "2", "")},
		{2, "-", names("-"+big, "1", "2/4")},
		{4, "+", names("1/"+big, "1/"+big[:59]+"8")},
	} {
		checkGivesCode(t, s, c.code, c.name, numbers(c.texts...)...)
	}
}

func TestPlainOfSomeNumbers(t *testing.T) {
	m := newMaker(162)
	told := map[int]int{}
	for range 6000 {
		name := m.pick(ofNumbersOnly)
		takes := plainTakes[name]
		count := min(takes[1], takes[0]+m.random.Intn(4))
		var texts []string
		for range count {
			value := new(big.Rat).SetFrac(someWhole(m.random, 1+m.random.Intn(60)), big.NewInt(1))
			if below := someWhole(m.random, 1+m.random.Intn(60)); below.Sign() != 0 && m.random.Intn(2) == 0 {
				value.SetFrac(value.Num(), below)
			}
			if m.random.Intn(5) == 0 {
				value.SetInt64(int64(m.random.Intn(3) - 1))
			}
			if m.random.Intn(2) == 0 {
				value.Neg(value)
			}
			texts = append(texts, value.RatString())
		}
		told[checkPlain(t, impl.CoreState{}, name, numbers(texts...)...)]++
	}
	if told[0] < 1000 || told[2] < 200 || told[4] < 200 || told[0]+told[2]+told[4] != 6000 {
		t.Errorf("too few of one kind: %v", told)
	}
}

func TestPlainOfPairs(t *testing.T) {
	s := someState()
	one, other := placed(impl.ValPair, 0), placed(impl.ValPair, 1)
	checkGives(t, s, num("1"), "car", one)
	checkGives(t, s, null, "cdr", one)
	checkGives(t, s, sym("a"), "car", other)
	checkGives(t, s, num("2"), "cdr", other)
	checkGives(t, s, num("1"), "car", impl.Val{Kind: impl.ValPair, Text: "text"})
	for _, name := range names("car", "cdr", "set-car!", "set-cdr!") {
		for _, wrong := range []impl.Val{num("0"), yes, str(""), sym("a"), null, placed(impl.ValClosure, 0), prim("car"), placed(impl.ValCont, 0), none, placed(impl.ValParam, 0), placed(impl.ValError, 0)} {
			list := many(one, plainTakes[name][0])
			list[0] = wrong
			checkGivesCode(t, s, 2, name, list...)
		}
	}
	checkPlain(t, s, "set-car!", one, other)
	after, v, code := impl.CorePlain(s, "set-car!", vals(one, other))
	if v != none || code != 0 || after.Pairs[0] != (impl.CorePair{Car: other, Cdr: null}) || after.Pairs[1] != s.Pairs[1] || len(after.Pairs) != 2 {
		t.Errorf("set-car!: %+v %d, %+v", v, code, after.Pairs)
	}
	after, v, code = impl.CorePlain(s, "set-cdr!", vals(other, other))
	if v != none || code != 0 || after.Pairs[1] != (impl.CorePair{Car: sym("a"), Cdr: other}) || after.Pairs[0] != s.Pairs[0] || len(after.Pairs) != 2 {
		t.Errorf("set-cdr!: %+v %d, %+v", v, code, after.Pairs)
	}
	if s.Pairs[0] != (impl.CorePair{Car: num("1"), Cdr: null}) || s.Pairs[1] != (impl.CorePair{Car: sym("a"), Cdr: num("2")}) {
		t.Errorf("the state that was handed in: %+v", s.Pairs)
	}
}

// `cons` of two has the two as `car` and `cdr`. (Promise 16.)
func TestPlainConsKeeps(t *testing.T) {
	m := newMaker(163)
	for range 800 {
		s := m.state()
		a, b := m.val(s), m.val(s)
		checkPlain(t, s, "cons", a, b)
		after, pair, code := impl.CorePlain(s, "cons", vals(a, b))
		if code != 0 || pair != placed(impl.ValPair, len(s.Pairs)) || len(after.Pairs) != len(s.Pairs)+1 {
			t.Fatalf("cons: %+v %d, %+v", pair, code, after.Pairs)
		}
		checkGives(t, after, a, "car", pair)
		checkGives(t, after, b, "cdr", pair)
	}
}

// The last pair of a list is made first, so what is told is the last one of Pairs.
func TestPlainList(t *testing.T) {
	s := someState()
	checkGives(t, s, null, "list")
	after, v, code := impl.CorePlain(s, "list", vals(num("7"), yes, placed(impl.ValPair, 1)))
	want := append(slices.Clone(s.Pairs),
		impl.CorePair{Car: placed(impl.ValPair, 1), Cdr: null},
		impl.CorePair{Car: yes, Cdr: placed(impl.ValPair, 2)},
		impl.CorePair{Car: num("7"), Cdr: placed(impl.ValPair, 3)},
	)
	if v != placed(impl.ValPair, 4) || code != 0 || !slices.Equal(after.Pairs, want) {
		t.Errorf("%+v %d %+v", v, code, after.Pairs)
	}
	checkCoreShow(t, after, v, "(7 #t (a . 2))", true)
	for count := range 100 {
		checkPlain(t, s, "list", many(num("1"), count)...)
	}
}

func TestPlainMakeParameter(t *testing.T) {
	s := someState()
	checkPlain(t, s, "make-parameter", none)
	after, v, code := impl.CorePlain(s, "make-parameter", vals(str("v")))
	if v != placed(impl.ValParam, 2) || code != 0 || !slices.Equal(after.Params, append(slices.Clone(s.Params), str("v"))) {
		t.Errorf("%+v %d %+v", v, code, after.Params)
	}
	after, v, code = impl.CorePlain(after, "make-parameter", vals(v))
	if v != placed(impl.ValParam, 3) || code != 0 || after.Params[3] != placed(impl.ValParam, 2) {
		t.Errorf("%+v %d %+v", v, code, after.Params)
	}
	checkCoreShow(t, after, v, "#<procedure>", true)
}

func TestPlainOfErrors(t *testing.T) {
	s := someState()
	checkGives(t, s, str("bad"), "error-text", placed(impl.ValError, 0))
	checkGives(t, s, str(""), "error-text", placed(impl.ValError, 1))
	checkGives(t, s, null, "error-list", placed(impl.ValError, 0))
	checkGives(t, s, placed(impl.ValPair, 0), "error-list", placed(impl.ValError, 1))
	for _, wrong := range []impl.Val{num("0"), no, str("bad"), sym("bad"), null, placed(impl.ValPair, 0), placed(impl.ValClosure, 0), prim("error"), placed(impl.ValCont, 0), none, placed(impl.ValParam, 0)} {
		checkGivesCode(t, s, 2, "error-text", wrong)
		checkGivesCode(t, s, 2, "error-list", wrong)
	}
}

// What is asked of one value, of each Kind.
func TestPlainOfKinds(t *testing.T) {
	s := someState()
	asks := map[string][]int{
		"null?": {impl.ValNil}, "pair?": {impl.ValPair}, "number?": {impl.ValNumber}, "symbol?": {impl.ValSymbol}, "error?": {impl.ValError},
		"procedure?": {impl.ValClosure, impl.ValPrim, impl.ValCont, impl.ValParam},
	}
	for name, kinds := range asks {
		for kind := impl.ValNumber; kind <= impl.ValError; kind++ {
			for _, v := range []impl.Val{{Kind: kind}, {Kind: kind, Text: "f", At: 1}} {
				checkGives(t, s, truthAgain(slices.Contains(kinds, kind)), name, v)
			}
		}
	}
	for _, c := range []struct {
		v    impl.Val
		want impl.Val
	}{
		{no, yes},
		{yes, no},
		{impl.Val{Kind: impl.ValBool, Text: "f", At: 7}, yes}, // At says nothing.
		{impl.Val{Kind: impl.ValBool}, no},
		{impl.Val{Kind: impl.ValBool, Text: "#f"}, no},
		{str("f"), no}, {sym("f"), no}, {num("0"), no}, {num("f"), no}, {null, no}, {none, no}, {prim("f"), no}, {placed(impl.ValPair, 0), no}, {placed(impl.ValError, 1), no},
	} {
		checkGives(t, s, c.want, "not", c.v)
	}
}

// The same in Kind, Text and At.
func TestPlainEq(t *testing.T) {
	s := someState()
	twin := listIn(&s, num("1"))
	all := []impl.Val{
		num("1"), num("2"), num("1/2"), {Kind: impl.ValNumber, Text: "1", At: 1}, yes, no, str("1"), str(""), sym("1"), sym(""), null, {Kind: impl.ValNil, At: 1}, {Kind: impl.ValNil, Text: "x"},
		placed(impl.ValPair, 0), placed(impl.ValPair, 1), {Kind: impl.ValPair, Text: "x"}, twin, placed(impl.ValClosure, 0), placed(impl.ValClosure, 1), prim("car"), prim("cdr"), placed(impl.ValCont, 0), none, placed(impl.ValParam, 0), placed(impl.ValParam, 1), placed(impl.ValError, 0),
	}
	for i, a := range all {
		for j, b := range all {
			checkGives(t, s, truthAgain(i == j), "eq?", a, b)
			if a.Kind != impl.ValPair || b.Kind != impl.ValPair {
				checkGives(t, s, truthAgain(i == j), "equal?", a, b)
			}
		}
	}
	checkGives(t, s, yes, "equal?", twin, placed(impl.ValPair, 0))
	checkGives(t, s, yes, "equal?", twin, impl.Val{Kind: impl.ValPair, Text: "x"})
	checkGives(t, s, no, "equal?", twin, placed(impl.ValPair, 1))
}

func TestPlainEqualOfPairs(t *testing.T) {
	one, two := num("1"), num("2")
	for i, c := range []struct {
		make func(s *impl.CoreState) (impl.Val, impl.Val)
		want impl.Val
	}{
		{func(s *impl.CoreState) (impl.Val, impl.Val) { return listIn(s, one, two), listIn(s, one, two) }, yes},
		{func(s *impl.CoreState) (impl.Val, impl.Val) { return listIn(s, one, two), listIn(s, two, one) }, no},
		{func(s *impl.CoreState) (impl.Val, impl.Val) { return listIn(s, one, two), listIn(s, one) }, no},
		{func(s *impl.CoreState) (impl.Val, impl.Val) { return listIn(s, one), listIn(s, one, two) }, no},
		{func(s *impl.CoreState) (impl.Val, impl.Val) { return listIn(s, one, two), endingIn(s, two, one) }, no},
		{func(s *impl.CoreState) (impl.Val, impl.Val) { return pairIn(s, one, two), pairIn(s, one, two) }, yes},
		{func(s *impl.CoreState) (impl.Val, impl.Val) { return pairIn(s, one, two), pairIn(s, one, one) }, no},
		{func(s *impl.CoreState) (impl.Val, impl.Val) { return pairIn(s, one, two), pairIn(s, two, two) }, no},
		{func(s *impl.CoreState) (impl.Val, impl.Val) {
			return listIn(s, listIn(s, one), two), listIn(s, listIn(s, one), two)
		}, yes},
		{func(s *impl.CoreState) (impl.Val, impl.Val) {
			return listIn(s, listIn(s, one), two), listIn(s, listIn(s, two), two)
		}, no},
		{func(s *impl.CoreState) (impl.Val, impl.Val) {
			return pairIn(s, listIn(s, one), two), pairIn(s, one, two)
		}, no},
		// Pairs that share.
		{func(s *impl.CoreState) (impl.Val, impl.Val) {
			same := listIn(s, one)
			return listIn(s, same, same), listIn(s, listIn(s, one), listIn(s, one))
		}, yes},
		{func(s *impl.CoreState) (impl.Val, impl.Val) {
			same := listIn(s, one)
			return pairIn(s, one, same), pairIn(s, one, same)
		}, yes},
		{func(s *impl.CoreState) (impl.Val, impl.Val) { same := listIn(s, one); return same, same }, yes},
	} {
		var s impl.CoreState
		a, b := c.make(&s)
		checkGives(t, s, c.want, "equal?", a, b)
		checkGives(t, s, c.want, "equal?", b, a)
		checkGives(t, s, yes, "equal?", a, a)
		if t.Failed() {
			t.Fatalf("case %d", i)
		}
	}
}

// checkEqualStops asks for the value, and whether the program stands of it.
func checkEqualStops(t *testing.T, s impl.CoreState, a impl.Val, b impl.Val, want impl.Val, stops bool) {
	t.Helper()
	for _, before := range []int{0, impl.StopError} {
		s.Stop = before
		checkPlain(t, s, "equal?", a, b)
		after, v, code := impl.CorePlain(s, "equal?", vals(a, b))
		wantStop := before
		if stops {
			wantStop = impl.StopOut
		}
		if v != want || code != 0 || after.Stop != wantStop {
			t.Errorf("%+v %d, Stop %d; want %+v, Stop %d", v, code, after.Stop, want, wantStop)
		}
	}
}

// Of equal values an odd number is compared: each two pairs, and one more value than these.
func TestPlainEqualAtTwoThousand(t *testing.T) {
	for _, c := range []struct {
		same  int // How many pairs are the same in both lists.
		tail  [2]impl.Val
		want  impl.Val
		stops bool
	}{
		{998, [2]impl.Val{null, null}, yes, false},                    // 1997
		{999, [2]impl.Val{null, null}, yes, false},                    // 1999
		{1000, [2]impl.Val{null, null}, no, true},                     // It would be 2001.
		{1001, [2]impl.Val{null, null}, no, true},                     //
		{999, [2]impl.Val{null, num("1")}, no, false},                 // 1999, of which the last two are not.
		{1000, [2]impl.Val{null, num("1")}, no, true},                 //
		{0, [2]impl.Val{null, num("1")}, no, false},                   // 1
		{5000, [2]impl.Val{null, null}, no, true},                     //
		{998, [2]impl.Val{num("1"), num("1")}, yes, false},            //
		{1000, [2]impl.Val{sym("x"), sym("x")}, no, true},             //
		{999, [2]impl.Val{impl.Val{Kind: 5, At: 1}, null}, no, false}, //
	} {
		var s impl.CoreState
		a := endingIn(&s, c.tail[0], many(num("1"), c.same)...)
		b := endingIn(&s, c.tail[1], many(num("1"), c.same)...)
		checkEqualStops(t, s, a, b, c.want, c.stops)
	}
	// With Cars that are not the same where just so many, one fewer and one more are compared: the Car of the pair at 999 is the 2000th.
	for at, stops := range map[int]bool{0: false, 500: false, 998: false, 999: true, 1000: true, 1500: true} {
		var s impl.CoreState
		all := many(num("1"), 2000)
		a := listIn(&s, all...)
		all[at] = num("2")
		checkEqualStops(t, s, a, listIn(&s, all...), no, stops)
	}
	// A pair and what is none, as the 1999th and the 2001st.
	for size, stops := range map[int]bool{999: false, 1000: true} {
		var s impl.CoreState
		a, b := listIn(&s, many(null, size)...), listIn(&s, many(null, size+1)...)
		checkEqualStops(t, s, a, b, no, stops)
		checkEqualStops(t, s, b, a, no, stops)
	}
	// Cars in Cars: all pairs come first.
	for deep, want := range map[int]impl.Val{999: yes, 1000: no, 1999: no, 2000: no, 10_000: no} {
		var s impl.CoreState
		a, b := num("1"), num("1")
		for range deep {
			a, b = pairIn(&s, a, null), pairIn(&s, b, null)
		}
		checkEqualStops(t, s, a, b, want, want == no)
	}
	// The innermost Cars are the 2000th compared, and not the same.
	for deep, stops := range map[int]bool{1998: false, 1999: true, 2000: true} {
		var s impl.CoreState
		a, b := num("1"), num("2")
		for range deep {
			a, b = pairIn(&s, a, null), pairIn(&s, b, null)
		}
		checkEqualStops(t, s, a, b, no, stops)
	}
}

func TestPlainEqualOfWhatGoesAround(t *testing.T) {
	me, other := placed(impl.ValPair, 0), placed(impl.ValPair, 1)
	for _, c := range []struct {
		pairs []impl.CorePair
		stops bool
	}{
		{[]impl.CorePair{{Car: num("1"), Cdr: me}, {Car: num("1"), Cdr: other}}, true},
		{[]impl.CorePair{{Car: me, Cdr: num("1")}, {Car: other, Cdr: num("1")}}, true},
		{[]impl.CorePair{{Car: me, Cdr: num("1")}, {Car: other, Cdr: num("2")}}, true}, // It does not come to the Cdrs.
		{[]impl.CorePair{{Car: num("1"), Cdr: me}, {Car: num("2"), Cdr: other}}, false},
		{[]impl.CorePair{{Car: me, Cdr: me}, {Car: me, Cdr: other}}, true},
		{[]impl.CorePair{{Car: num("1"), Cdr: other}, {Car: num("1"), Cdr: me}}, true},
		{[]impl.CorePair{{Car: num("1"), Cdr: other}, {Car: num("1"), Cdr: null}}, false},
		{[]impl.CorePair{{Car: me, Cdr: me}, {Car: null, Cdr: other}}, false},
	} {
		s := impl.CoreState{Pairs: c.pairs}
		checkEqualStops(t, s, me, other, no, c.stops)
		checkEqualStops(t, s, other, me, no, c.stops)
	}
	s := impl.CoreState{Pairs: []impl.CorePair{{Car: num("1"), Cdr: me}}}
	checkEqualStops(t, s, me, me, no, true)
	checkGives(t, s, yes, "eq?", me, me)
}

// checkSays asks what is behind Out, or whether the program stands with Out as it was.
func checkSays(t *testing.T, s impl.CoreState, want string, stops bool, name string, list ...impl.Val) {
	t.Helper()
	checkPlain(t, s, name, list...)
	after, v, code := impl.CorePlain(s, name, list)
	wantOut, wantStop := s.Out+want, s.Stop
	if stops {
		wantOut, wantStop = s.Out, impl.StopOut
	}
	if v != none || code != 0 || after.Out != wantOut || after.Stop != wantStop {
		t.Errorf("%s: %+v %d, Out of %d bytes, Stop %d; want %d bytes, Stop %d", name, v, code, len(after.Out), after.Stop, len(wantOut), wantStop)
	}
}

func TestPlainDisplay(t *testing.T) {
	s := someState()
	checkSays(t, s, "7", false, "display", num("7"))
	checkSays(t, s, "a \"b\"", false, "display", str("a \"b\""))
	checkSays(t, s, "", false, "display", str(""))
	checkSays(t, s, "(a . 2)", false, "display", placed(impl.ValPair, 1))
	checkSays(t, s, "#<error bad>", false, "display", placed(impl.ValError, 0))
	checkSays(t, s, "#<none>", false, "display", none)
	checkSays(t, s, "#<procedure>", false, "display", placed(impl.ValParam, 0))
	checkSays(t, s, "\n", false, "newline")
	s.Out, s.Stop = "", impl.StopDone
	checkSays(t, s, "#t", false, "display", yes)
	checkSays(t, s, "\n", false, "newline")
}

func TestPlainDisplayAtTwoThousandBytes(t *testing.T) {
	of := func(size int) string { return strings.Repeat("x", size) }
	for _, c := range []struct {
		before, size int
		stops        bool
	}{
		{0, 0, false}, {0, 1, false}, {0, 1999, false}, {0, 2000, false}, {0, 2001, true}, {0, 9999, true},
		{1, 1999, false}, {1, 2000, true}, {1000, 1000, false}, {1000, 1001, true}, {1999, 1, false}, {1999, 2, true},
		{2000, 0, false}, {2000, 1, true}, {2000, 2000, true},
		{2001, 0, true}, {2001, 1, true}, {5000, 0, true}, // More than it may be, already.
	} {
		s := impl.CoreState{Out: of(c.before)}
		checkSays(t, s, of(c.size), c.stops, "display", str(of(c.size)))
		if c.size > 1 {
			text := of(c.size - 2)
			checkSays(t, s, "("+text+")", c.stops, "display", listIn(&s, sym(text)))
		}
	}
	for before, stops := range map[int]bool{0: false, 1998: false, 1999: false, 2000: true, 2001: true, 9999: true} {
		s := impl.CoreState{Out: of(before), Stop: impl.StopRoom}
		checkSays(t, s, "\n", stops, "newline")
	}
}

// What CoreShow does not show, as it is too much: what goes around, and too many pieces.
func TestPlainDisplayOfTooMuch(t *testing.T) {
	me := placed(impl.ValPair, 0)
	for _, pair := range []impl.CorePair{{Car: me, Cdr: null}, {Car: num("1"), Cdr: me}, {Car: me, Cdr: me}} {
		checkSays(t, impl.CoreState{Pairs: []impl.CorePair{pair}, Out: "before"}, "", true, "display", me)
	}
	var s impl.CoreState
	just, more := listIn(&s, many(str(""), 999)...), listIn(&s, many(str(""), 1000)...)
	checkSays(t, s, "("+strings.Repeat(" ", 998)+")", false, "display", just)
	checkSays(t, s, "", true, "display", more)
	checkSays(t, s, "\n", false, "newline")
}

// All lists of the answer are its own, spare room included, with a code, too.
func TestPlainSharesNothing(t *testing.T) {
	m := newMaker(164)
	for range 60 {
		s := copyOf(m.state())
		s.Pairs = append(s.Pairs, copyOf(impl.CorePair{Car: str("car"), Cdr: str("cdr")}))
		s.Errors = append(s.Errors, copyOf(impl.CoreErr{Text: "text", List: sym("list")}))
		s = withSpareRoom(s)
		s.Frames = append(s.Frames, impl.CoreFrame{Vals: s.Vals}, impl.CoreFrame{Vals: s.Vals}) // What is handed in may share its lists.
		for _, name := range slices.Sorted(maps.Keys(plainTakes)) {
			takes := plainTakes[name]
			for _, count := range []int{takes[0], min(takes[1], takes[0]+2), takes[1] + 1} {
				list := withRoom(m.valsOf(s, count))
				if count > 0 && m.random.Intn(2) == 0 {
					list[0] = placed([]int{impl.ValPair, impl.ValError}[m.random.Intn(2)], 0)
				}
				after, v, _ := impl.CorePlain(s, name, list)
				in := append(memoryOf(reflect.ValueOf(s), "state", true), memoryOf(reflect.ValueOf(list), "values", true)...)
				out := append(memoryOf(reflect.ValueOf(after), "answer", true), memoryOf(reflect.ValueOf(v), "value", true)...)
				if what := shared(out, in, false); what != "" {
					t.Fatalf("%s: %s", name, what)
				}
				lists := memoryOf(reflect.ValueOf(after), "answer", false)
				if what := shared(lists, lists, true); what != "" {
					t.Fatalf("%s, within: %s", name, what)
				}
			}
		}
	}
}

// withSpareRoom has room behind some lists of a state, into which more could be written.
func withSpareRoom(s impl.CoreState) impl.CoreState {
	s.Pairs, s.Params = slices.Grow(s.Pairs, 200), slices.Grow(s.Params, 200)
	s.Vals, s.Frames = slices.Grow(s.Vals, 5), slices.Grow(s.Frames, 5)
	return s
}

// The state that was handed in stays as it was, also if more is done with what was answered.
func TestPlainStatesStandApart(t *testing.T) {
	first := withSpareRoom(someState())
	before := copyOf(first)
	left, a, _ := impl.CorePlain(first, "cons", vals(num("1"), num("2")))
	right, b, _ := impl.CorePlain(first, "cons", vals(num("3"), num("4")))
	left, _, _ = impl.CorePlain(left, "set-car!", vals(placed(impl.ValPair, 0), a))
	left, _, _ = impl.CorePlain(left, "display", vals(a))
	right, _, _ = impl.CorePlain(right, "make-parameter", vals(b))
	if a != b || !sameAs(first, before) {
		t.Errorf("%+v", first)
	}
	checkCoreShow(t, left, placed(impl.ValPair, 0), "((1 . 2))", true)
	checkCoreShow(t, right, placed(impl.ValPair, 0), "(1)", true)
	checkCoreShow(t, right, b, "(3 . 4)", true)
	if left.Out != "out(1 . 2)" || right.Out != "out" || len(left.Params) != 2 || len(right.Params) != 3 {
		t.Errorf("%q %q %d %d", left.Out, right.Out, len(left.Params), len(right.Params))
	}
}

// States, names and values of all sorts, as the document's words say.
func TestPlainOfSome(t *testing.T) {
	m := newMaker(165)
	all := slices.Sorted(maps.Keys(plainTakes))
	told := map[int]int{}
	for range 12000 {
		s := m.state()
		name := m.pick(all)
		if m.random.Intn(20) == 0 {
			name = m.pick(append(names("", "none"), callsOthers...))
		}
		count := m.random.Intn(4)
		if takes, known := plainTakes[name]; known && m.random.Intn(8) > 0 {
			count = min(takes[1], takes[0]+m.random.Intn(3))
		}
		list := m.valsOf(s, count)
		if count > 0 && m.random.Intn(20) == 0 {
			list[m.random.Intn(count)] = m.wrongVal(s)
		}
		if len(s.Pairs) > 0 && m.random.Intn(20) == 0 {
			s.Pairs[m.random.Intn(len(s.Pairs))].Car = m.wrongVal(s)
		}
		if m.random.Intn(10) == 0 {
			s.Out = strings.Repeat("o", 1990+m.random.Intn(20))
		}
		told[checkPlain(t, s, name, list...)]++
		if t.Failed() {
			return
		}
	}
	if told[0] < 1000 || told[1] < 500 || told[2] < 1000 || told[3] < 300 || told[4] == 0 {
		t.Errorf("too few of one kind: %v", told)
	}
}

// Many things one behind the other, each with the state that the one before it left.
func TestPlainInARow(t *testing.T) {
	m := newMaker(166)
	for range 40 {
		s := m.state()
		known := m.valsOf(s, 3)
		for range 60 {
			name := m.pick(names("cons", "cons", "list", "list", "set-car!", "set-cdr!", "car", "cdr", "make-parameter", "display", "newline", "equal?", "eq?"))
			takes := plainTakes[name]
			var list []impl.Val
			for range min(takes[1], takes[0]+m.random.Intn(3)) {
				list = append(list, known[m.random.Intn(len(known))])
			}
			checkPlain(t, s, name, list...)
			after, v, code := impl.CorePlain(s, name, list)
			if code == 0 {
				s, known = after, append(known, v)
			}
		}
		if t.Failed() {
			return
		}
	}
}

// The greatest and the least places are none, and no list is too long to be answered.
func TestPlainOfGreatPlaces(t *testing.T) {
	s := someState()
	for _, at := range []int{math.MinInt, math.MaxInt, 1 << 32, -1 << 32} {
		for kind := impl.ValNumber; kind <= impl.ValError; kind++ {
			want := 0
			if hasPlace(kind) {
				want = 1
			}
			checkGivesCode(t, s, want, "list", placed(kind, at))
			checkGivesCode(t, s, want, "null?", placed(kind, at))
		}
	}
	for name := range plainTakes {
		checkGivesCode(t, s, 3, name, many(num("1"), 10_000)...)
	}
}
