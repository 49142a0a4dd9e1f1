package tests

import (
	"math"
	"reflect"
	"strconv"
	"strings"
	"testing"

	"loop.example/sispass/impl"
)

func TestValKinds(t *testing.T) {
	for i, kind := range []int{impl.ValNumber, impl.ValBool, impl.ValString, impl.ValSymbol, impl.ValNil, impl.ValPair, impl.ValClosure, impl.ValPrim, impl.ValCont, impl.ValNone, impl.ValParam, impl.ValError} {
		if kind != i+1 {
			t.Errorf("Kind %d: %d", i+1, kind)
		}
	}
}

// checkCoreShow holds CoreShow against what it is to answer, and that nothing is written into what is handed in.
func checkCoreShow(t *testing.T, s impl.CoreState, v impl.Val, want string, wantOk bool) {
	t.Helper()
	if again, ok := coreShowAgain(s, v); again != want || ok != wantOk {
		t.Fatalf("wanted %.60q %v, and it is to be %.60q %v", want, wantOk, again, ok)
	}
	roomy := withRoom(s)
	before := toTheEnd(roomy)
	if text, ok := impl.CoreShow(roomy, v); text != want || ok != wantOk {
		t.Errorf("CoreShow of %+v: %.60q (%d bytes) %v; want %.60q (%d) %v", v, text, len(text), ok, want, len(want), wantOk)
	}
	if !sameAs(toTheEnd(roomy), before) {
		t.Errorf("CoreShow of %+v changed the state", v)
	}
}

func checkShowsNot(t *testing.T, s impl.CoreState, v impl.Val) {
	t.Helper()
	checkCoreShow(t, s, v, "", false)
}

// someState has two of all that values are places of.
func someState() impl.CoreState {
	return impl.CoreState{
		Pairs:    []impl.CorePair{{Car: num("1"), Cdr: null}, {Car: sym("a"), Cdr: num("2")}},
		Closures: make([]impl.CoreClosure, 2),
		Conts:    make([]impl.CoreCont, 2),
		Params:   vals(num("7"), none),
		Errors:   []impl.CoreErr{{Text: "bad", List: null}, {Text: "", List: placed(impl.ValPair, 0)}},
		Out:      "out",
	}
}

func TestCoreShowOfEachKind(t *testing.T) {
	for _, c := range []struct {
		v    impl.Val
		want string
	}{
		{num("7"), "7"},
		{num("-1/2"), "-1/2"},
		{num("any text"), "any text"},
		{num(""), ""},
		{yes, "#t"},
		{no, "#f"},
		{impl.Val{Kind: impl.ValBool, Text: "\xff"}, "#\xff"},
		{impl.Val{Kind: impl.ValBool}, "#"},
		{str("a b"), "a b"},
		{str(""), ""},
		{str("(\"\x00\n\xff"), "(\"\x00\n\xff"},
		{sym("name"), "name"},
		{sym("() ("), "() ("},
		{null, "()"},
		{placed(impl.ValPair, 0), "(1)"},
		{placed(impl.ValPair, 1), "(a . 2)"},
		{placed(impl.ValClosure, 0), "#<procedure>"},
		{placed(impl.ValClosure, 1), "#<procedure>"},
		{prim("car"), "#<procedure>"},
		{prim("is none"), "#<procedure>"},
		{placed(impl.ValCont, 0), "#<procedure>"},
		{placed(impl.ValCont, 1), "#<procedure>"},
		{none, "#<none>"},
		{placed(impl.ValParam, 0), "#<procedure>"},
		{placed(impl.ValParam, 1), "#<procedure>"},
		{placed(impl.ValError, 0), "#<error bad>"},
		{placed(impl.ValError, 1), "#<error >"},
	} {
		checkCoreShow(t, someState(), c.v, c.want, true)
		if !hasPlace(c.v.Kind) {
			checkCoreShow(t, impl.CoreState{}, c.v, c.want, true)
		}
	}
}

func hasPlace(kind int) bool {
	switch kind {
	case impl.ValPair, impl.ValClosure, impl.ValCont, impl.ValParam, impl.ValError:
		return true
	}
	return false
}

// Where a Kind has no place At says nothing, and where it has no Text this says nothing.
func TestCoreShowOfWhatAKindHasNot(t *testing.T) {
	s := someState()
	for kind := impl.ValNumber; kind <= impl.ValError; kind++ {
		if hasPlace(kind) {
			bare, _ := impl.CoreShow(s, placed(kind, 1))
			checkCoreShow(t, s, impl.Val{Kind: kind, Text: "text", At: 1}, bare, true)
			continue
		}
		bare, _ := impl.CoreShow(s, impl.Val{Kind: kind, Text: "f"})
		for _, at := range []int{-1, 1, 2, 99, math.MinInt, math.MaxInt} {
			checkCoreShow(t, s, impl.Val{Kind: kind, Text: "f", At: at}, bare, true)
		}
	}
	for _, v := range []impl.Val{{Kind: impl.ValNil, Text: "text"}, {Kind: impl.ValNone, Text: "text"}} {
		bare, _ := impl.CoreShow(s, impl.Val{Kind: v.Kind})
		checkCoreShow(t, s, v, bare, true)
	}
	// What a list ends in by its Kind alone.
	checkCoreShow(t, s, pairIn(&s, num("1"), impl.Val{Kind: impl.ValNil, Text: "text", At: 5}), "(1)", true)
}

func TestCoreShowOfNoKind(t *testing.T) {
	for _, kind := range []int{0, 13, 14, -1, -6, math.MinInt, math.MaxInt, 1<<32 + 1} {
		for _, text := range []string{"", "text"} {
			checkShowsNot(t, someState(), impl.Val{Kind: kind, Text: text})
			checkShowsNot(t, impl.CoreState{}, impl.Val{Kind: kind, Text: text})
		}
	}
}

func TestCoreShowOfPlacesThatAreNone(t *testing.T) {
	for kind := impl.ValNumber; kind <= impl.ValError; kind++ {
		if !hasPlace(kind) {
			continue
		}
		for _, at := range []int{-1, 2, 3, math.MinInt, math.MaxInt} {
			checkShowsNot(t, someState(), placed(kind, at))
		}
		checkShowsNot(t, impl.CoreState{}, placed(kind, 0))
	}
	// Each Kind is a place of its own list: with one of this alone there is one.
	for _, c := range []struct {
		kind int
		s    impl.CoreState
	}{
		{impl.ValPair, impl.CoreState{Pairs: []impl.CorePair{{Car: none, Cdr: null}}}},
		{impl.ValClosure, impl.CoreState{Closures: make([]impl.CoreClosure, 1)}},
		{impl.ValCont, impl.CoreState{Conts: make([]impl.CoreCont, 1)}},
		{impl.ValParam, impl.CoreState{Params: make([]impl.Val, 1)}},
		{impl.ValError, impl.CoreState{Errors: make([]impl.CoreErr, 1)}},
	} {
		for kind := impl.ValNumber; kind <= impl.ValError; kind++ {
			if _, ok := impl.CoreShow(c.s, placed(kind, 0)); hasPlace(kind) && ok != (kind == c.kind) {
				t.Errorf("with one of Kind %d alone Kind %d is shown: %v", c.kind, kind, ok)
			}
		}
	}
}

func TestCoreShowOfPairs(t *testing.T) {
	one, two, three := num("1"), num("2"), num("3")
	for _, c := range []struct {
		make func(s *impl.CoreState) impl.Val
		want string
	}{
		{func(s *impl.CoreState) impl.Val { return listIn(s, one) }, "(1)"},
		{func(s *impl.CoreState) impl.Val { return listIn(s, one, two, three) }, "(1 2 3)"},
		{func(s *impl.CoreState) impl.Val { return pairIn(s, one, two) }, "(1 . 2)"},
		{func(s *impl.CoreState) impl.Val { return endingIn(s, three, one, two) }, "(1 2 . 3)"},
		{func(s *impl.CoreState) impl.Val { return listIn(s, null) }, "(())"},
		{func(s *impl.CoreState) impl.Val { return listIn(s, null, null) }, "(() ())"},
		{func(s *impl.CoreState) impl.Val { return listIn(s, listIn(s, listIn(s, one))) }, "(((1)))"},
		{func(s *impl.CoreState) impl.Val { return listIn(s, listIn(s, one), two) }, "((1) 2)"},
		{func(s *impl.CoreState) impl.Val { return pairIn(s, one, listIn(s, two, three)) }, "(1 2 3)"},
		{func(s *impl.CoreState) impl.Val { return listIn(s, one, listIn(s, two, three)) }, "(1 (2 3))"},
		{func(s *impl.CoreState) impl.Val { return pairIn(s, pairIn(s, one, two), pairIn(s, two, three)) }, "((1 . 2) 2 . 3)"},
		{func(s *impl.CoreState) impl.Val { return listIn(s, pairIn(s, one, two), pairIn(s, two, three)) }, "((1 . 2) (2 . 3))"},
		{func(s *impl.CoreState) impl.Val { return pairIn(s, listIn(s, one), none) }, "((1) . #<none>)"},
		{func(s *impl.CoreState) impl.Val {
			return listIn(s, yes, str("a b"), sym("c"), null, prim("car"), none, num("-1/2"))
		}, "(#t a b c () #<procedure> #<none> -1/2)"},
		{func(s *impl.CoreState) impl.Val { return pairIn(s, no, no) }, "(#f . #f)"},
		{func(s *impl.CoreState) impl.Val { return pairIn(s, str(""), str("")) }, "( . )"},
		{func(s *impl.CoreState) impl.Val { return listIn(s, str(""), str("")) }, "( )"},
		{func(s *impl.CoreState) impl.Val {
			s.Errors = append(s.Errors, impl.CoreErr{Text: "e", List: placed(99, 99)})
			return listIn(s, placed(impl.ValError, 0), one)
		}, "(#<error e> 1)"},
		{func(s *impl.CoreState) impl.Val { same := listIn(s, one); return listIn(s, same, same) }, "((1) (1))"},
		{func(s *impl.CoreState) impl.Val { same := listIn(s, one); return pairIn(s, same, same) }, "((1) 1)"},
	} {
		var s impl.CoreState
		v := c.make(&s)
		checkCoreShow(t, s, v, c.want, true)
	}
}

// A Car or a Cdr that is none of the state, also where what is shown does not come to it.
func TestCoreShowOfPairsOfNoState(t *testing.T) {
	bad := []impl.Val{{}, {Kind: 13}, {Kind: -1}, placed(impl.ValPair, 3), placed(impl.ValPair, -1), placed(impl.ValClosure, 2), placed(impl.ValCont, -1), placed(impl.ValParam, 2), placed(impl.ValError, 2), placed(impl.ValError, math.MinInt)}
	for _, wrong := range bad {
		for at := range 3 {
			for _, isCar := range []bool{true, false} {
				s := someState()
				s.Pairs = append(s.Pairs, impl.CorePair{Car: none, Cdr: none})
				if isCar {
					s.Pairs[at].Car = wrong
				} else {
					s.Pairs[at].Cdr = wrong
				}
				for _, v := range []impl.Val{placed(impl.ValPair, 0), placed(impl.ValPair, 1), placed(impl.ValPair, 2), num("1"), null, str(""), placed(impl.ValError, 0)} {
					checkShowsNot(t, s, v)
				}
			}
		}
	}
	// Elsewhere in the state it is no matter.
	s := impl.CoreState{
		Vals: vals(impl.Val{}), Cells: vals(impl.Val{}), Params: vals(impl.Val{}), Errors: []impl.CoreErr{{}}, Frames: []impl.CoreFrame{{Vals: vals(impl.Val{})}},
		Winds: make([]impl.CoreWind, 1), Hands: make([]impl.CoreHand, 1), Binds: make([]impl.CoreBind, 1), Mode: -5, Frame: 99, Stop: 77,
	}
	checkCoreShow(t, s, num("1"), "1", true)
	checkCoreShow(t, s, placed(impl.ValParam, 0), "#<procedure>", true)
}

func TestCoreShowOfWhatGoesAround(t *testing.T) {
	me, other := placed(impl.ValPair, 0), placed(impl.ValPair, 1)
	for _, pairs := range [][]impl.CorePair{
		{{Car: me, Cdr: null}},
		{{Car: me, Cdr: num("1")}},
		{{Car: num("1"), Cdr: me}},
		{{Car: str(""), Cdr: me}},
		{{Car: me, Cdr: me}},
		{{Car: other, Cdr: null}, {Car: me, Cdr: null}},
		{{Car: str(""), Cdr: other}, {Car: str(""), Cdr: me}},
		{{Car: other, Cdr: null}, {Car: str(""), Cdr: me}},
		{{Car: other, Cdr: other}, {Car: str(""), Cdr: me}},
		{{Car: null, Cdr: other}, {Car: null, Cdr: other}},
	} {
		s := impl.CoreState{Pairs: pairs}
		checkShowsNot(t, s, me)
		// What is beside it is shown.
		checkCoreShow(t, s, num("1"), "1", true)
		checkCoreShow(t, s, listIn(&s, num("1")), "(1)", true)
	}
}

func TestCoreShowAtTwoThousandBytes(t *testing.T) {
	of := func(size int) string { return strings.Repeat("x", size) }
	for _, c := range []struct {
		size int // Of the text with which just as much is shown.
		make func(s *impl.CoreState, text string) impl.Val
	}{
		{2000, func(s *impl.CoreState, text string) impl.Val { return str(text) }},
		{2000, func(s *impl.CoreState, text string) impl.Val { return sym(text) }},
		{2000, func(s *impl.CoreState, text string) impl.Val { return num(text) }},
		{1999, func(s *impl.CoreState, text string) impl.Val { return impl.Val{Kind: impl.ValBool, Text: text} }},
		{1991, func(s *impl.CoreState, text string) impl.Val {
			s.Errors = []impl.CoreErr{{Text: text}}
			return placed(impl.ValError, 0)
		}},
		{1998, func(s *impl.CoreState, text string) impl.Val { return listIn(s, str(text)) }},
		{1996, func(s *impl.CoreState, text string) impl.Val { return listIn(s, num("1"), str(text)) }},
		{1996, func(s *impl.CoreState, text string) impl.Val { return listIn(s, str(text), num("1")) }},
		{1994, func(s *impl.CoreState, text string) impl.Val { return pairIn(s, num("1"), str(text)) }},
		{1994, func(s *impl.CoreState, text string) impl.Val { return pairIn(s, str(text), num("1")) }},
		{1995, func(s *impl.CoreState, text string) impl.Val { return listIn(s, str(text), null) }},
		{1995, func(s *impl.CoreState, text string) impl.Val { return listIn(s, str(text), str(""), str(""), str("")) }},
		{1990, func(s *impl.CoreState, text string) impl.Val { return listIn(s, none, str(text)) }},
	} {
		var s, more impl.CoreState
		just := c.make(&s, of(c.size))
		text, ok := coreShowAgain(s, just)
		if !ok || len(text) != impl.CoreMaxOut {
			t.Fatalf("%d bytes are to be shown %v", len(text), ok)
		}
		checkCoreShow(t, s, just, text, true)
		checkShowsNot(t, more, c.make(&more, of(c.size+1)))
	}
	var s, more impl.CoreState
	just, wide := str(""), str("")
	for range 400 {
		just = pairIn(&s, just, str(""))
	}
	checkCoreShow(t, s, just, strings.Repeat("(", 400)+strings.Repeat(" . )", 400), true)
	for range 401 {
		wide = pairIn(&more, wide, str(""))
	}
	checkShowsNot(t, more, wide)
	s, more = impl.CoreState{}, impl.CoreState{}
	just = listIn(&s, many(num("1"), 999)...)
	checkCoreShow(t, s, just, "("+strings.Repeat("1 ", 998)+"1)", true) // 1999 bytes and as many pieces.
	checkShowsNot(t, more, listIn(&more, many(num("1"), 1000)...))      // 2001 of both.
	checkShowsNot(t, more, str(strings.Repeat("x", 1_000_000)))
	checkShowsNot(t, more, listIn(&more, many(str(strings.Repeat("x", 10_000)), 100)...))
}

func many(v impl.Val, count int) []impl.Val {
	list := make([]impl.Val, count)
	for i := range list {
		list[i] = v
	}
	return list
}

// Pieces are counted, also those without a byte. There is always an odd number of them: one of what is no pair; of a list
// those of its values, one space less than these, `(` and `)`, and, if it ends in a value, ` . ` and this. So beside CoreMaxOut
// there are 1999 and 2001.
func TestCoreShowAtTwoThousandPieces(t *testing.T) {
	empty := str("")
	for _, c := range []struct {
		name string
		size int // The greatest that is shown.
		make func(s *impl.CoreState, size int) impl.Val
	}{
		{"a list", 999, func(s *impl.CoreState, size int) impl.Val { return listIn(s, many(empty, size)...) }},
		{"a list of symbols", 999, func(s *impl.CoreState, size int) impl.Val { return listIn(s, many(sym(""), size)...) }},
		{"a list of numbers that are none", 999, func(s *impl.CoreState, size int) impl.Val { return listIn(s, many(num(""), size)...) }},
		{"ending in a value", 998, func(s *impl.CoreState, size int) impl.Val { return endingIn(s, empty, many(empty, size)...) }},
		{"in each other by their Cars", 999, func(s *impl.CoreState, size int) impl.Val {
			v := empty
			for range size {
				v = listIn(s, v)
			}
			return v
		}},
		{"a list of lists", 499, func(s *impl.CoreState, size int) impl.Val {
			var lists []impl.Val
			for range size {
				lists = append(lists, listIn(s, empty))
			}
			return listIn(s, lists...)
		}},
		{"one list many times", 499, func(s *impl.CoreState, size int) impl.Val {
			return listIn(s, many(listIn(s, empty), size)...)
		}},
		{"one list, and the others in it", 332, func(s *impl.CoreState, size int) impl.Val {
			return pairIn(s, empty, listIn(s, many(pairIn(s, empty, empty), size)...))
		}},
	} {
		var s, more impl.CoreState
		just := c.make(&s, c.size)
		pieces := shownPiecesAgain(s, just, nil)
		if len(pieces) > impl.CoreMaxOut || len(shownPiecesAgain(more, c.make(&more, c.size+1), nil)) <= impl.CoreMaxOut {
			t.Fatalf("%s: %d pieces", c.name, len(pieces))
		}
		checkCoreShow(t, s, just, strings.Join(pieces, ""), true)
		more = impl.CoreState{}
		v := c.make(&more, c.size+1)
		if size := len(strings.Join(shownPiecesAgain(more, v, nil), "")); size > impl.CoreMaxOut {
			t.Fatalf("%s: %d bytes, too", c.name, size)
		}
		checkShowsNot(t, more, v)
	}
}

// Pairs that are one million deep, or long, are answered.
func TestCoreShowOfVeryDeep(t *testing.T) {
	var s impl.CoreState
	deep, long := null, null
	for range 1_000_000 {
		deep, long = pairIn(&s, deep, null), pairIn(&s, null, long)
	}
	for _, v := range []impl.Val{deep, long} {
		if text, ok := impl.CoreShow(s, v); ok || text != "" {
			t.Errorf("%.60q %v", text, ok)
		}
	}
	if text, ok := impl.CoreShow(s, placed(impl.ValPair, 4)); !ok || text != "(((())))" {
		t.Errorf("%q %v", text, ok)
	}
}

// What is shown is new memory.
func TestCoreShowSharesNothing(t *testing.T) {
	s := copyOf(someState())
	of := memoryOf(reflect.ValueOf(s), "state", true)
	for _, v := range []impl.Val{str("text"), placed(impl.ValError, 0), placed(impl.ValPair, 1)} {
		v = copyOf(v)
		text, ok := impl.CoreShow(s, v)
		if what := shared(memoryOf(reflect.ValueOf(text), "answer", true), append(of, memoryOf(reflect.ValueOf(v), "value", true)...), false); !ok || what != "" {
			t.Errorf("%+v: %s", v, what)
		}
	}
}

// state is one with a little of everything, the pairs of which may go around.
func (m maker) state() impl.CoreState {
	var s impl.CoreState
	s.Pairs = make([]impl.CorePair, m.random.Intn(7))
	s.Closures = make([]impl.CoreClosure, m.random.Intn(3))
	s.Conts = make([]impl.CoreCont, m.random.Intn(3))
	s.Params = make([]impl.Val, m.random.Intn(3))
	s.Errors = make([]impl.CoreErr, m.random.Intn(3))
	for i := range s.Pairs {
		s.Pairs[i] = impl.CorePair{Car: m.val(s), Cdr: m.val(s)}
	}
	for i := range s.Params {
		s.Params[i] = m.val(s)
	}
	for i := range s.Errors {
		s.Errors[i] = impl.CoreErr{Text: m.pick(names("", "bad", "worse")), List: m.val(s)}
	}
	s.Closures = append(s.Closures, impl.CoreClosure{Node: 1, Env: 2})
	s.Conts = append(s.Conts, impl.CoreCont{Frame: 1, Wind: 2, Hand: 3, Bind: 4})
	m.dress(&s)
	return s
}

// dress gives a state something of all that no value is a place of.
func (m maker) dress(s *impl.CoreState) {
	some := func() int { return m.random.Intn(9) - 2 }
	s.Mode, s.Node, s.Env, s.Frame, s.Wind, s.Hand, s.Bind, s.Top = some(), some(), some(), some(), some(), some(), some(), some()
	s.Steps, s.Deepest, s.Stop = some(), some(), m.random.Intn(8)
	s.Out, s.Fault = strings.Repeat("o", m.random.Intn(5)), m.pick(names("", "fault"))
	for range m.random.Intn(3) {
		s.Vals = append(s.Vals, m.val(*s))
		s.Cells = append(s.Cells, m.val(*s))
		s.Frames = append(s.Frames, impl.CoreFrame{Kind: some(), Node: some(), Env: some(), At: some(), Vals: m.valsOf(*s, m.random.Intn(3)), Next: some(), Wind: some(), Hand: some(), Bind: some(), Deep: some()})
		s.Envs = append(s.Envs, impl.CoreEnv{Name: m.pick(m.names), Cell: some(), Next: some()})
		s.Globals = append(s.Globals, impl.CoreEnv{Name: m.pick(m.names), Cell: some(), Next: some()})
		s.Winds = append(s.Winds, impl.CoreWind{Before: m.val(*s), After: m.val(*s), Next: some()})
		s.Hands = append(s.Hands, impl.CoreHand{Proc: m.val(*s), Next: some()})
		s.Binds = append(s.Binds, impl.CoreBind{Param: some(), Value: m.val(*s), Next: some()})
	}
}

func (m maker) valsOf(s impl.CoreState, count int) []impl.Val {
	var list []impl.Val
	for range count {
		list = append(list, m.val(s))
	}
	return list
}

// val is a value of a state.
func (m maker) val(s impl.CoreState) impl.Val {
	for {
		v := impl.Val{Kind: 1 + m.random.Intn(12)}
		if m.random.Intn(3) == 0 {
			v.Kind = []int{1, 6}[m.random.Intn(2)]
		}
		places := map[int]int{6: len(s.Pairs), 7: len(s.Closures), 9: len(s.Conts), 11: len(s.Params), 12: len(s.Errors)}
		switch v.Kind {
		case 1:
			v.Text = m.pick(names("0", "1", "-1", "2", "7", "-7", "1/2", "-3/4", nines, "-"+nines, "1/"+nines, "2/4", "x", ""))
		case 2:
			v.Text = m.pick(names("t", "f"))
		case 3, 4, 8:
			v.Text = m.pick(names("", "a", "car", "a b"))
		case 6, 7, 9, 11, 12:
			if places[v.Kind] == 0 {
				continue
			}
			v.At = m.random.Intn(places[v.Kind])
		}
		return v
	}
}

// wrongVal is a value that is none of a state.
func (m maker) wrongVal(s impl.CoreState) impl.Val {
	for {
		v := impl.Val{Kind: m.random.Intn(16) - 2, Text: m.pick(m.texts), At: m.random.Intn(20) - 10}
		if !ofStateAgain(s, v) {
			return v
		}
	}
}

func TestCoreShowOfSome(t *testing.T) {
	m := newMaker(16)
	told := map[bool]int{}
	for range 8000 {
		s := m.state()
		v := m.val(s)
		if m.random.Intn(8) == 0 {
			v = m.wrongVal(s)
		}
		if len(s.Pairs) > 0 && m.random.Intn(8) == 0 {
			s.Pairs[m.random.Intn(len(s.Pairs))].Cdr = m.wrongVal(s)
		}
		want, ok := coreShowAgain(s, v)
		told[ok]++
		checkCoreShow(t, s, v, want, ok)
		if t.Failed() {
			return
		}
	}
	if told[true] < 1000 || told[false] < 1000 {
		t.Errorf("too few of one kind: %v", told)
	}
}

// Trees of pairs about as great as may be shown, of short texts.
func TestCoreShowOfSomeGreat(t *testing.T) {
	m := newMaker(161)
	told := map[bool]int{}
	for range 500 {
		var s impl.CoreState
		all := many(str(""), 300+m.random.Intn(500))
		for i := range all {
			all[i] = str(strings.Repeat("x", m.random.Intn(4)))
		}
		for len(all) > 1 {
			at := m.random.Intn(len(all) - 1)
			all[at] = pairIn(&s, all[at], all[at+1])
			all = append(all[:at+1], all[at+2:]...)
		}
		want, ok := coreShowAgain(s, all[0])
		told[ok]++
		checkCoreShow(t, s, all[0], want, ok)
		if t.Failed() {
			return
		}
	}
	if told[true] < 100 || told[false] < 100 {
		t.Errorf("too few of one kind: %v", told)
	}
}

func TestCoreShowOfLongAndDeep(t *testing.T) {
	var s impl.CoreState
	deep := num("1")
	var all []impl.Val
	for range 300 {
		deep = pairIn(&s, deep, null)
	}
	for i := range 300 {
		all = append(all, num(strconv.Itoa(i)))
	}
	long := listIn(&s, all...)
	checkCoreShow(t, s, deep, strings.Repeat("(", 300)+"1"+strings.Repeat(")", 300), true)
	var want []string
	for _, v := range all {
		want = append(want, v.Text)
	}
	checkCoreShow(t, s, long, "("+strings.Join(want, " ")+")", true)
}
