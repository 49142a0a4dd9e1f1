package tests

import (
	"math/big"
	"math/rand"
	"strings"
	"testing"

	"loop.example/sispass/impl"
)

// fieldWay is one of the four functions, and the library's.
type fieldWay struct {
	name  string
	call  func(impl.Num, impl.Num) (impl.Num, int)
	again func(*big.Rat, *big.Rat) *big.Rat
}

var fieldWays = []fieldWay{
	{"NumAdd", impl.NumAdd, func(a, b *big.Rat) *big.Rat { return new(big.Rat).Add(a, b) }},
	{"NumSub", impl.NumSub, func(a, b *big.Rat) *big.Rat { return new(big.Rat).Sub(a, b) }},
	{"NumMul", impl.NumMul, func(a, b *big.Rat) *big.Rat { return new(big.Rat).Mul(a, b) }},
	{"NumDiv", impl.NumDiv, func(a, b *big.Rat) *big.Rat { return new(big.Rat).Quo(a, b) }},
}

// fieldAgain is what one of the four is to answer of two numbers that are ok.
func fieldAgain(way fieldWay, a impl.Num, b impl.Num) (impl.Num, int) {
	if way.name == "NumDiv" && b.Up == "0" {
		return impl.Num{}, 2
	}
	n, ok := numOfRat(way.again(ratOf(a), ratOf(b)))
	if !ok {
		return impl.Num{}, 3
	}
	return n, 0
}

// checkField holds all of the chapter against the library, of two numbers that are ok. (Promises 1 to 3.)
func checkField(t *testing.T, a impl.Num, b impl.Num) {
	t.Helper()
	for _, way := range fieldWays {
		got, code := way.call(a, b)
		if want, wantCode := fieldAgain(way, a, b); got != want || code != wantCode {
			t.Errorf("%s of %+v, %+v: %+v %d; want %+v %d", way.name, a, b, got, code, want, wantCode)
		}
		if code == 0 && !impl.NumOk(got) {
			t.Errorf("%s of %+v, %+v: %+v is not ok", way.name, a, b, got)
		}
	}
	if got, want := impl.NumCmp(a, b), ratOf(a).Cmp(ratOf(b)); got != want {
		t.Errorf("NumCmp of %+v, %+v: %d; want %d", a, b, got, want)
	}
}

func number(t *testing.T, text string) impl.Num {
	t.Helper()
	n, ok := impl.NumParse(text, 10)
	if !ok {
		t.Fatalf("%q is no number", text)
	}
	return n
}

var (
	nines   = strings.Repeat("9", 60)
	noughts = strings.Repeat("0", 59)
)

// fieldNumbers are numbers of both signs, from nought to the greatest ones.
func fieldNumbers(t *testing.T) []impl.Num {
	all := []impl.Num{number(t, "0")}
	for _, text := range []string{
		"1", "2", "3", "1/2", "2/3", "3/2", "1000000000", "999999999/1000000000",
		"18446744073709551616/7", "123456789012345678901234567890/1000000007",
		nines, "1/" + nines, nines + "/" + nines[1:] + "8", nines[1:] + "8/" + nines,
		"1" + noughts, "3/1" + noughts, nines[:30] + "8/" + nines[:30], nines[:30], "1/" + nines[:31],
	} {
		all = append(all, number(t, text), number(t, "-"+text))
	}
	return all
}

func someNumber(t *testing.T, random *rand.Rand, digits int) impl.Num {
	t.Helper()
	text := someWhole(random, digits).String() + "/" + someWhole(random, digits).String()
	if random.Intn(2) == 0 {
		text = "-" + text
	}
	return number(t, text)
}

func TestFieldValues(t *testing.T) {
	for _, c := range []struct {
		a, b                 string
		sum, left, prod, quo string
		cmp                  int
	}{
		{"1/6", "-1/2", "-1/3", "2/3", "-1/12", "-1/3", 1},
		{"1/2", "1/2", "1", "0", "1/4", "1", 0},
		{"-1/2", "1/2", "0", "-1", "-1/4", "-1", -1},
		{"2", "-3", "-1", "5", "-6", "-2/3", 1},
		{"-2", "-3", "-5", "1", "6", "2/3", 1},
		{"-3", "-2", "-5", "-1", "6", "3/2", -1},
		{"0", "-7/3", "-7/3", "7/3", "0", "0", 1},
		{"0", "7/3", "7/3", "-7/3", "0", "0", -1},
		{"5/6", "5/6", "5/3", "0", "25/36", "1", 0},
		{"2/3", "3/2", "13/6", "-5/6", "1", "4/9", -1},
		{"999999999", "1", "1000000000", "999999998", "999999999", "999999999", 1},
		{"1000000000", "-1", "999999999", "1000000001", "-1000000000", "-1000000000", 1},
		{"999999999999999999", "999999999", "1000000000999999998", "999999999000000000", "999999998999999999000000001", "1000000001", 1},
	} {
		a, b := number(t, c.a), number(t, c.b)
		for i, want := range []string{c.sum, c.left, c.prod, c.quo} {
			got, code := fieldWays[i].call(a, b)
			if code != 0 || got != number(t, want) {
				t.Errorf("%s of %s, %s: %+v %d", fieldWays[i].name, c.a, c.b, got, code)
			}
		}
		if got := impl.NumCmp(a, b); got != c.cmp {
			t.Errorf("NumCmp of %s, %s: %d", c.a, c.b, got)
		}
		checkField(t, a, b)
	}
}

func TestFieldOfAllPairs(t *testing.T) {
	all := fieldNumbers(t)
	for _, a := range all {
		for _, b := range all {
			checkField(t, a, b)
		}
	}
}

func TestFieldOfSomePairs(t *testing.T) {
	random := rand.New(rand.NewSource(3))
	for _, digits := range []int{1, 2, 9, 15, 19, 30, 31, 59} {
		for range 300 {
			checkField(t, someNumber(t, random, digits), someNumber(t, random, digits))
		}
	}
}

// A whole number and one over another one, of the patterns that are hard at the seams of groups.
func TestFieldOfHardDigits(t *testing.T) {
	one := impl.NumInt(1)
	for _, up := range hardDigits() {
		a, ok := impl.NumParse(up, 10)
		if !ok {
			continue
		}
		checkField(t, a, one)
		for _, down := range hardDigits() {
			if b, ok := impl.NumParse("-1/"+down, 10); ok {
				checkField(t, a, b)
				checkField(t, b, a)
			}
		}
	}
}

// What has more than 60 digits only ahead of lowest terms is answered; just 60 in lowest terms are, and one more is not.
func TestFieldTooBig(t *testing.T) {
	half := "1/2" + noughts // 1 over 2 and 59 noughts: 60 digits below
	for _, c := range []struct {
		way  int
		a, b string
		want string // nothing: too big
	}{
		{0, nines[1:] + "8", "1", nines},
		{0, nines, "1", ""},
		{0, nines, "-1", nines[1:] + "8"},
		{0, "-" + nines, "-1", ""},
		{1, "-" + nines, "1", ""},
		{1, nines, nines, "0"},
		{0, nines, "-" + nines, "0"},
		{0, half, half, "1/1" + noughts},
		{0, "1/" + nines, "2/" + nines, "1/" + strings.Repeat("3", 60)},
		{1, "1/" + nines, "1/" + nines, "0"},
		{0, "1/" + nines, "1", ""},
		{0, "1/" + nines, "-1", "-" + nines[1:] + "8/" + nines},
		{0, "1/" + nines, "1/" + nines[1:] + "8", ""},
		{2, nines, "1/3", strings.Repeat("3", 60)},
		{2, nines, nines, ""},
		{2, nines, "1/" + nines, "1"},
		{2, "-" + nines + "/" + nines[1:] + "8", nines[1:] + "8/" + nines, "-1"},
		{2, "1" + noughts, "10", ""},
		{2, "1" + noughts, "9", "9" + noughts},
		{2, "1" + noughts[:29], "1" + noughts[:30], "1" + noughts},
		{2, "1" + noughts[:30], "1" + noughts[:30], ""},
		{2, "1/1" + noughts, "1/10", ""},
		{2, "1/1" + noughts, "1/9", "1/9" + noughts},
		{2, half, "5", "1/4" + noughts[1:]},
		{3, nines, "1/2", ""},
		{3, nines, nines, "1"},
		{3, "1/" + nines, "1/" + nines, "1"},
		{3, nines, "3", strings.Repeat("3", 60)},
		{3, "1/1" + noughts, "10", ""},
		{3, "-1/1" + noughts, "9", "-1/9" + noughts},
		{3, "1", nines, "1/" + nines},
	} {
		want, wantCode := impl.Num{}, 3
		if c.want != "" {
			want, wantCode = number(t, c.want), 0
		}
		a, b := number(t, c.a), number(t, c.b)
		if got, code := fieldWays[c.way].call(a, b); got != want || code != wantCode {
			t.Errorf("%s of %s, %s: %+v %d", fieldWays[c.way].name, c.a, c.b, got, code)
		}
		checkField(t, a, b)
	}
}

// Two of 60 digits, made of common parts, so that what comes has few digits or just 60.
func TestFieldTooBigOnlyAheadOfLowestTerms(t *testing.T) {
	random := rand.New(rand.NewSource(4))
	for range 2000 {
		p, q, r := someWhole(random, 30), someWhole(random, 30), someWhole(random, 30)
		a := number(t, new(big.Int).Mul(p, q).String()+"/"+r.String())
		b := number(t, new(big.Int).Mul(r, q).String()+"/"+p.String())
		checkField(t, a, b)
		checkField(t, b, a)
	}
}

// Promise 1.
func TestFieldLaws(t *testing.T) {
	all := fieldNumbers(t)
	for _, a := range all {
		checkUnits(t, a)
		for _, b := range all {
			checkTwo(t, a, b)
		}
	}
	random := rand.New(rand.NewSource(5))
	for range 3000 {
		checkThree(t, someNumber(t, random, 9), someNumber(t, random, 9), someNumber(t, random, 9))
	}
	for range 3000 {
		checkThree(t, all[random.Intn(len(all))], all[random.Intn(len(all))], all[random.Intn(len(all))])
	}
}

// checkUnits: nought and one change nothing, and a number by itself is 1.
func checkUnits(t *testing.T, a impl.Num) {
	t.Helper()
	nought, one := impl.NumInt(0), impl.NumInt(1)
	same(t, "plus nought", a, fieldOf(impl.NumAdd, a, nought), a)
	same(t, "nought plus it", a, fieldOf(impl.NumAdd, nought, a), a)
	same(t, "less nought", a, fieldOf(impl.NumSub, a, nought), a)
	same(t, "times one", a, fieldOf(impl.NumMul, a, one), a)
	same(t, "one times it", a, fieldOf(impl.NumMul, one, a), a)
	same(t, "by one", a, fieldOf(impl.NumDiv, a, one), a)
	same(t, "times nought", a, fieldOf(impl.NumMul, a, nought), nought)
	same(t, "less itself", a, fieldOf(impl.NumSub, a, a), nought)
	if a.Up != "0" {
		same(t, "by itself", a, fieldOf(impl.NumDiv, a, a), one)
	}
}

// checkTwo: both ways, and what was added or multiplied is taken back.
func checkTwo(t *testing.T, a impl.Num, b impl.Num) {
	t.Helper()
	sum, product := fieldOf(impl.NumAdd, a, b), fieldOf(impl.NumMul, a, b)
	same(t, "sum the other way", a, fieldOf(impl.NumAdd, b, a), sum)
	same(t, "product the other way", a, fieldOf(impl.NumMul, b, a), product)
	if sum != (impl.Num{}) {
		same(t, "taken back", a, fieldOf(impl.NumSub, sum, b), a)
	}
	if product != (impl.Num{}) && b.Up != "0" {
		same(t, "divided back", a, fieldOf(impl.NumDiv, product, b), a)
	}
}

// checkThree: one behind the other, and across, unless something is too big.
func checkThree(t *testing.T, a impl.Num, b impl.Num, c impl.Num) {
	t.Helper()
	add, mul := impl.NumAdd, impl.NumMul
	for _, sides := range [][2]impl.Num{
		{fieldOf(add, fieldOf(add, a, b), c), fieldOf(add, a, fieldOf(add, b, c))},
		{fieldOf(mul, fieldOf(mul, a, b), c), fieldOf(mul, a, fieldOf(mul, b, c))},
		{fieldOf(mul, a, fieldOf(add, b, c)), fieldOf(add, fieldOf(mul, a, b), fieldOf(mul, a, c))},
	} {
		if sides[0] != (impl.Num{}) && sides[1] != (impl.Num{}) {
			same(t, "one behind the other, or across", a, sides[0], sides[1])
		}
	}
}

// fieldOf is what one answers, and nothing with a code.
func fieldOf(call func(impl.Num, impl.Num) (impl.Num, int), a impl.Num, b impl.Num) impl.Num {
	n, _ := call(a, b)
	return n
}

func same(t *testing.T, what string, of impl.Num, got impl.Num, want impl.Num) {
	t.Helper()
	if got != want {
		t.Errorf("%s, %+v: %+v; want %+v", what, of, got, want)
	}
}

// Promise 2: a nought has no sign and is over 1, what is divided by one below nought has its sign above.
func TestFieldOfEachNumberThereIsOne(t *testing.T) {
	nought := impl.Num{Up: "0", Down: "1"}
	for _, a := range fieldNumbers(t) {
		opposite := impl.Num{Neg: !a.Neg && a.Up != "0", Up: a.Up, Down: a.Down}
		same(t, "plus its opposite", a, fieldOf(impl.NumAdd, a, opposite), nought)
		same(t, "nought times it", a, fieldOf(impl.NumMul, nought, a), nought)
		same(t, "0 less it", a, fieldOf(impl.NumSub, nought, a), opposite)
		same(t, "by -1", a, fieldOf(impl.NumDiv, a, impl.NumInt(-1)), opposite)
		if a.Up != "0" {
			same(t, "nought by it", a, fieldOf(impl.NumDiv, nought, a), nought)
			same(t, "one by it", a, fieldOf(impl.NumDiv, impl.NumInt(1), a), impl.Num{Neg: a.Neg, Up: a.Down, Down: a.Up})
			same(t, "by its opposite", a, fieldOf(impl.NumDiv, a, opposite), impl.NumInt(-1))
		}
	}
}

// notOk are numbers that look like some that are.
var notOk = []impl.Num{
	{},
	{Up: "1"},
	{Down: "1"},
	{Neg: true, Up: "0", Down: "1"},
	{Up: "0", Down: "2"},
	{Up: "0", Down: "0"},
	{Up: "1", Down: "0"},
	{Up: "01", Down: "1"},
	{Up: "2", Down: "4"},
	{Up: "-1", Down: "1"},
	{Up: "x", Down: "1"},
	{Up: "1\xff", Down: "1"},
	{Up: nines + "9", Down: "1"},
	{Neg: true, Up: "1", Down: nines + "9"},
}

func TestFieldOfNumbersNotOk(t *testing.T) {
	others := append([]impl.Num{impl.NumInt(0), impl.NumInt(1), impl.NumInt(-5), number(t, nines)}, notOk...)
	for _, bad := range notOk {
		for _, other := range others { // Also nought, and what would be too big: code 1 is looked for first.
			checkRefused(t, bad, other)
			checkRefused(t, other, bad)
		}
	}
}

func checkRefused(t *testing.T, a impl.Num, b impl.Num) {
	t.Helper()
	for _, way := range fieldWays {
		if got, code := way.call(a, b); got != (impl.Num{}) || code != 1 {
			t.Errorf("%s of %+v, %+v: %+v %d", way.name, a, b, got, code)
		}
	}
	if got := impl.NumCmp(a, b); got != 0 {
		t.Errorf("NumCmp of %+v, %+v: %d", a, b, got)
	}
}

func TestFieldByNought(t *testing.T) {
	for _, a := range fieldNumbers(t) {
		if got, code := impl.NumDiv(a, impl.NumInt(0)); got != (impl.Num{}) || code != 2 {
			t.Errorf("%+v by nought: %+v %d", a, got, code)
		}
	}
}

// Promise 3.
func TestFieldOrder(t *testing.T) {
	all := fieldNumbers(t)
	for _, a := range all {
		for _, b := range all {
			checkOrder(t, a, b)
			for _, c := range all {
				checkOrderKept(t, a, b, c)
			}
		}
	}
}

// checkOrder: one is less, the same, or more, and NumSub tells it by its sign.
func checkOrder(t *testing.T, a impl.Num, b impl.Num) {
	t.Helper()
	order := impl.NumCmp(a, b)
	if order < -1 || order > 1 || order != -impl.NumCmp(b, a) || (order == 0) != (a == b) {
		t.Errorf("%+v, %+v: %d, and %d", a, b, order, impl.NumCmp(b, a))
	}
	if left, code := impl.NumSub(a, b); code == 0 && signOf(left) != order {
		t.Errorf("%+v, %+v: %d, and what is left is %+v", a, b, order, left)
	}
}

// checkOrderKept: what is added leaves it, what is multiplied leaves it or turns it around, unless something is too big.
func checkOrderKept(t *testing.T, a impl.Num, b impl.Num, c impl.Num) {
	t.Helper()
	order := impl.NumCmp(a, b)
	x, y := fieldOf(impl.NumAdd, a, c), fieldOf(impl.NumAdd, b, c)
	if x != (impl.Num{}) && y != (impl.Num{}) && impl.NumCmp(x, y) != order {
		t.Errorf("%+v, %+v: %d; both plus %+v: %d", a, b, order, c, impl.NumCmp(x, y))
	}
	x, y = fieldOf(impl.NumMul, a, c), fieldOf(impl.NumMul, b, c)
	if x != (impl.Num{}) && y != (impl.Num{}) && impl.NumCmp(x, y) != order*signOf(c) {
		t.Errorf("%+v, %+v: %d; both times %+v: %d", a, b, order, c, impl.NumCmp(x, y))
	}
}

func signOf(n impl.Num) int {
	switch {
	case n.Neg:
		return -1
	case n.Up == "0":
		return 0
	}
	return 1
}

// Numbers of 60 digits above and below that are next to each other.
func TestFieldOrderOfNeighbours(t *testing.T) {
	less, more := nines[2:]+"87/"+nines[1:]+"8", nines[1:]+"8/"+nines
	for _, c := range []struct {
		a, b string
		want int
	}{
		{less, more, -1},
		{more, less, 1},
		{"-" + less, "-" + more, 1},
		{"-" + more, "-" + less, -1},
		{"-" + more, less, -1},
		{more, "1", -1},
		{"-" + more, "-1", 1},
		{"1/" + nines, "1/" + nines[1:] + "8", -1},
		{"-1/" + nines, "0", -1},
		{"0", "1/" + nines, -1},
		{nines, nines[1:] + "8", 1},
		{"-" + nines, "-" + nines[1:] + "8", -1},
	} {
		a, b := number(t, c.a), number(t, c.b)
		if got := impl.NumCmp(a, b); got != c.want {
			t.Errorf("NumCmp of %s, %s: %d", c.a, c.b, got)
		}
		checkOrder(t, a, b)
		checkField(t, a, b)
	}
}
