package tests

import (
	"math/big"
	"reflect"
	"strings"
	"unsafe"

	"loop.example/sispass/impl"
)

// These say again, by calls in calls and by the library's big numbers, what the document says of values and of what is given.

func num(text string) impl.Val { return impl.Val{Kind: impl.ValNumber, Text: text} }

func str(text string) impl.Val { return impl.Val{Kind: impl.ValString, Text: text} }

func sym(name string) impl.Val { return impl.Val{Kind: impl.ValSymbol, Text: name} }

func prim(name string) impl.Val { return impl.Val{Kind: impl.ValPrim, Text: name} }

func placed(kind int, at int) impl.Val { return impl.Val{Kind: kind, At: at} }

var (
	yes  = impl.Val{Kind: impl.ValBool, Text: "t"}
	no   = impl.Val{Kind: impl.ValBool, Text: "f"}
	null = impl.Val{Kind: impl.ValNil}
	none = impl.Val{Kind: impl.ValNone}
)

func vals(list ...impl.Val) []impl.Val { return list }

// pairIn puts a new pair into a state.
func pairIn(s *impl.CoreState, car impl.Val, cdr impl.Val) impl.Val {
	s.Pairs = append(s.Pairs, impl.CorePair{Car: car, Cdr: cdr})
	return placed(impl.ValPair, len(s.Pairs)-1)
}

// endingIn puts a list into a state that ends in a value.
func endingIn(s *impl.CoreState, end impl.Val, list ...impl.Val) impl.Val {
	for i := range list {
		end = pairIn(s, list[len(list)-1-i], end)
	}
	return end
}

func listIn(s *impl.CoreState, list ...impl.Val) impl.Val {
	return endingIn(s, null, list...)
}

// ofStateAgain says whether a value is one of a state.
func ofStateAgain(s impl.CoreState, v impl.Val) bool {
	lists := map[int]int{6: len(s.Pairs), 7: len(s.Closures), 9: len(s.Conts), 11: len(s.Params), 12: len(s.Errors)}
	places, placed := lists[v.Kind]
	return v.Kind >= 1 && v.Kind <= 12 && (!placed || v.At >= 0 && v.At < places)
}

func pairsOfStateAgain(s impl.CoreState) bool {
	for _, pair := range s.Pairs {
		if !ofStateAgain(s, pair.Car) || !ofStateAgain(s, pair.Cdr) {
			return false
		}
	}
	return true
}

// coreShowAgain is what CoreShow is to answer.
func coreShowAgain(s impl.CoreState, v impl.Val) (string, bool) {
	if !ofStateAgain(s, v) || !pairsOfStateAgain(s) {
		return "", false
	}
	pieces := shownPiecesAgain(s, v, nil)
	text := strings.Join(pieces, "")
	if len(pieces) > 2000 || len(text) > 2000 {
		return "", false
	}
	return text, true
}

// shownPiecesAgain puts pieces behind others; if it leaves off, there are too many.
func shownPiecesAgain(s impl.CoreState, v impl.Val, pieces []string) []string {
	if v.Kind != 6 {
		return append(pieces, aloneAgain(s, v))
	}
	pieces = append(pieces, "(")
	for len(pieces) <= 2000 {
		pair := s.Pairs[v.At]
		pieces = shownPiecesAgain(s, pair.Car, pieces)
		v = pair.Cdr
		switch v.Kind {
		case 5:
			return append(pieces, ")")
		case 6:
			pieces = append(pieces, " ")
		default:
			return append(pieces, " . ", aloneAgain(s, v), ")")
		}
	}
	return pieces
}

func aloneAgain(s impl.CoreState, v impl.Val) string {
	switch v.Kind {
	case 2:
		return "#" + v.Text
	case 5:
		return "()"
	case 7, 8, 9, 11:
		return "#<procedure>"
	case 10:
		return "#<none>"
	case 12:
		return "#<error " + s.Errors[v.At].Text + ">"
	}
	return v.Text
}

// plainTakes is how many values each name of the chapter's first table takes.
var plainTakes = map[string][2]int{
	"+": {0, 99}, "*": {0, 99}, "-": {1, 99}, "/": {1, 99}, "quotient": {2, 2}, "modulo": {2, 2}, "=": {1, 99}, "<": {1, 99},
	"cons": {2, 2}, "list": {0, 99}, "car": {1, 1}, "cdr": {1, 1}, "set-car!": {2, 2}, "set-cdr!": {2, 2}, "eq?": {2, 2}, "equal?": {2, 2},
	"null?": {1, 1}, "pair?": {1, 1}, "number?": {1, 1}, "symbol?": {1, 1}, "error?": {1, 1}, "procedure?": {1, 1}, "not": {1, 1},
	"display": {1, 1}, "newline": {0, 0}, "make-parameter": {1, 1}, "error-text": {1, 1}, "error-list": {1, 1},
}

// callsOthers has the names of the chapter that are none of that table.
var callsOthers = names("apply", "call-with-values", "call/cc", "dynamic-wind", "error", "raise", "raise-continuable", "values", "with-exception-handler", "with-parameter")

// plainAgain is what CorePlain is to answer.
func plainAgain(s impl.CoreState, name string, vals []impl.Val) (impl.CoreState, impl.Val, int) {
	takes, known := plainTakes[name]
	known = known && pairsOfStateAgain(s)
	for _, v := range vals {
		known = known && ofStateAgain(s, v)
	}
	if !known {
		return s, impl.Val{}, 1
	}
	if len(vals) < takes[0] || len(vals) > takes[1] {
		return s, impl.Val{}, 3
	}
	after := copyOf(s)
	v, code := doAgain(&after, name, vals)
	if code != 0 {
		return s, impl.Val{}, code
	}
	return after, v, 0
}

// doAgain does it in a state; with a code that is to be thrown away.
func doAgain(s *impl.CoreState, name string, vals []impl.Val) (impl.Val, int) {
	switch name {
	case "+", "*", "-", "/", "quotient", "modulo", "=", "<":
		return numbersAgain(name, vals)
	case "car", "cdr", "set-car!", "set-cdr!":
		if vals[0].Kind != 6 {
			return impl.Val{}, 2
		}
		return pairAgain(&s.Pairs[vals[0].At], name, vals), 0
	case "error-text", "error-list":
		if vals[0].Kind != 12 {
			return impl.Val{}, 2
		}
		if name == "error-text" {
			return str(s.Errors[vals[0].At].Text), 0
		}
		return s.Errors[vals[0].At].List, 0
	case "cons":
		return pairIn(s, vals[0], vals[1]), 0
	case "list":
		return listIn(s, vals...), 0
	case "make-parameter":
		s.Params = append(s.Params, vals[0])
		return placed(11, len(s.Params)-1), 0
	case "display", "newline":
		text, ok := "\n", true
		if name == "display" {
			text, ok = coreShowAgain(*s, vals[0])
		}
		if ok && len(s.Out+text) <= 2000 {
			s.Out += text
		} else {
			s.Stop = 4
		}
		return none, 0
	}
	return truthAgain(askAgain(s, name, vals)), 0
}

func pairAgain(pair *impl.CorePair, name string, vals []impl.Val) impl.Val {
	switch name {
	case "car":
		return pair.Car
	case "cdr":
		return pair.Cdr
	case "set-car!":
		pair.Car = vals[1]
	case "set-cdr!":
		pair.Cdr = vals[1]
	}
	return none
}

func truthAgain(holds bool) impl.Val {
	if holds {
		return yes
	}
	return no
}

func askAgain(s *impl.CoreState, name string, vals []impl.Val) bool {
	kind, text := vals[0].Kind, vals[0].Text
	switch name {
	case "eq?":
		return vals[0] == vals[1]
	case "equal?":
		compared := 0
		equal := equalAgain(*s, vals[0], vals[1], &compared)
		if compared == 2000 {
			s.Stop = 4
		}
		return equal
	case "procedure?":
		return kind == 7 || kind == 8 || kind == 9 || kind == 11
	case "not":
		return kind == 2 && text == "f"
	}
	return kind == map[string]int{"null?": 5, "pair?": 6, "number?": 1, "symbol?": 4, "error?": 12}[name]
}

// equalAgain counts what it compares, up to 2000.
func equalAgain(s impl.CoreState, a impl.Val, b impl.Val, compared *int) bool {
	if *compared == 2000 {
		return false
	}
	*compared++
	if a.Kind == 6 && b.Kind == 6 {
		p, q := s.Pairs[a.At], s.Pairs[b.At]
		return equalAgain(s, p.Car, q.Car, compared) && equalAgain(s, p.Cdr, q.Cdr, compared)
	}
	return a == b
}

// numbersAgain is what is given with numbers. A number's text is as it is printed.
func numbersAgain(name string, vals []impl.Val) (impl.Val, int) {
	var all []*big.Rat
	for _, v := range vals {
		if v.Kind != 1 || !numberText.MatchString(v.Text) || !literalAgain(v.Text) {
			return impl.Val{}, 2
		}
		value, _ := new(big.Rat).SetString(v.Text)
		all = append(all, value)
	}
	switch name {
	case "=", "<":
		holds := true
		for i := 1; i < len(all); i++ {
			order := all[i-1].Cmp(all[i])
			holds = holds && (order == 0 && name == "=" || order < 0 && name == "<")
		}
		return truthAgain(holds), 0
	case "+", "-":
		if name == "+" || len(all) == 1 {
			all = append([]*big.Rat{big.NewRat(0, 1)}, all...)
		}
	case "*", "/":
		if name == "*" || len(all) == 1 {
			all = append([]*big.Rat{big.NewRat(1, 1)}, all...)
		}
	}
	return reckonAgain(name, all)
}

func reckonAgain(name string, all []*big.Rat) (impl.Val, int) {
	value := all[0]
	for _, next := range all[1:] {
		to := new(big.Rat)
		if name == "quotient" || name == "modulo" {
			if !value.IsInt() || !next.IsInt() {
				return impl.Val{}, 2
			}
		}
		if name != "+" && name != "-" && name != "*" && next.Sign() == 0 {
			return impl.Val{}, 2
		}
		switch name {
		case "+":
			to.Add(value, next)
		case "-":
			to.Sub(value, next)
		case "*":
			to.Mul(value, next)
		case "/":
			to.Quo(value, next)
		default:
			to.SetInt(dividedAgain(name, value.Num(), next.Num()))
		}
		if _, ok := numOfRat(to); !ok {
			return impl.Val{}, 4
		}
		value = to
	}
	return num(value.RatString()), 0
}

func dividedAgain(name string, a *big.Int, b *big.Int) *big.Int {
	whole, left := new(big.Int).QuoRem(a, b, new(big.Int))
	if name == "quotient" {
		return whole
	}
	if left.Sign()*b.Sign() < 0 {
		left.Add(left, b)
	}
	return left
}

// copyOf shares nothing with what it is given; empty lists are nil in it.
func copyOf[T any](of T) T {
	return copiedAll(reflect.ValueOf(of), false, 0).Interface().(T)
}

// withRoom is a copy, the lists of which have spare room with something in it.
func withRoom[T any](of T) T {
	return copiedAll(reflect.ValueOf(of), false, 3).Interface().(T)
}

// toTheEnd is a copy, to the lists of which their spare room belongs.
func toTheEnd[T any](of T) T {
	return copiedAll(reflect.ValueOf(of), true, 0).Interface().(T)
}

func copiedAll(v reflect.Value, spare bool, room int) reflect.Value {
	switch v.Kind() {
	case reflect.String:
		return reflect.ValueOf(strings.Clone(v.String())).Convert(v.Type())
	case reflect.Slice:
		size := v.Len()
		if spare {
			size = v.Cap()
		}
		if size+room == 0 {
			return reflect.Zero(v.Type())
		}
		to := reflect.MakeSlice(v.Type(), size+room, size+room)
		for i := range size {
			to.Index(i).Set(copiedAll(v.Slice(0, size).Index(i), spare, room))
		}
		for i := range room {
			markAll(to.Index(size + i))
		}
		return to.Slice(0, size)
	case reflect.Struct:
		to := reflect.New(v.Type()).Elem()
		for i := range v.NumField() {
			to.Field(i).Set(copiedAll(v.Field(i), spare, room))
		}
		return to
	}
	return v
}

// markAll changes all that is told by numbers and texts, and empties lists.
func markAll(v reflect.Value) {
	switch v.Kind() {
	case reflect.Int:
		v.SetInt(-77)
	case reflect.String:
		v.SetString("spare")
	case reflect.Slice:
		v.SetZero()
	case reflect.Struct:
		for i := range v.NumField() {
			markAll(v.Field(i))
		}
	}
}

// sameAs compares all; a list of nothing and no list are the same.
func sameAs[T any](a T, b T) bool {
	return reflect.DeepEqual(copyOf(a), copyOf(b))
}

// stretch is memory from a place up to another one.
type stretch struct {
	from, to uintptr
	what     string
}

// memoryOf tells what memory the lists are in, spare room included, and, if asked, the texts.
func memoryOf(v reflect.Value, what string, texts bool) []stretch {
	var all []stretch
	switch v.Kind() {
	case reflect.String:
		if text := v.String(); texts && text != "" {
			from := uintptr(unsafe.Pointer(unsafe.StringData(text)))
			all = append(all, stretch{from, from + uintptr(len(text)), what})
		}
	case reflect.Slice:
		if v.Cap() > 0 {
			all = append(all, stretch{v.Pointer(), v.Pointer() + uintptr(v.Cap())*v.Type().Elem().Size(), what})
		}
		for i := range v.Len() {
			all = append(all, memoryOf(v.Index(i), what, texts)...)
		}
	case reflect.Struct:
		for i := range v.NumField() {
			all = append(all, memoryOf(v.Field(i), what+" "+v.Type().Field(i).Name, texts)...)
		}
	}
	return all
}

// shared tells which two stretches have memory in common, one of each list; of one list and itself, two of it.
func shared(a []stretch, b []stretch, one bool) string {
	for i, x := range a {
		for j, y := range b {
			if (!one || i < j) && x.from < y.to && y.from < x.to {
				return x.what + " and " + y.what
			}
		}
	}
	return ""
}
