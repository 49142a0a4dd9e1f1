package tests

import (
	"math"
	"math/big"
	"math/rand"
	"strings"
	"testing"

	"loop.example/sispass/impl"
)

var roundWays = []int{impl.NumDownward, impl.NumUpward, impl.NumInward, impl.NumNearest}

// noWays are ways of rounding that there are none of.
var noWays = []int{0, 5, -1, 6, -4, math.MinInt, math.MaxInt, math.MinInt + 1, 1 << 32, 1<<32 + 1}

// roundAgain is what NumRound is to answer of a number that is ok, in a way that there is.
func roundAgain(n impl.Num, way int) (impl.Num, int) {
	value := ratOf(n)
	below := new(big.Int).Div(value.Num(), value.Denom()) // Downward, as what is below is above nought.
	above := new(big.Int).Set(below)
	if !value.IsInt() {
		above.Add(below, big.NewInt(1))
	}
	whole := below
	switch way {
	case impl.NumUpward:
		whole = above
	case impl.NumInward:
		if value.Sign() < 0 {
			whole = above
		}
	case impl.NumNearest:
		toBelow := new(big.Rat).Sub(value, new(big.Rat).SetInt(below))
		toAbove := new(big.Rat).Sub(new(big.Rat).SetInt(above), value)
		if order := toAbove.Cmp(toBelow); order < 0 || order == 0 && below.Bit(0) == 1 {
			whole = above
		}
	}
	rounded, ok := numOfRat(new(big.Rat).SetInt(whole))
	if !ok {
		return impl.Num{}, 3
	}
	return rounded, 0
}

// checkRound holds all ways against what they are to answer, and against promise 6.
func checkRound(t *testing.T, n impl.Num) {
	t.Helper()
	for _, way := range roundWays {
		got, code := impl.NumRound(n, way)
		if want, wantCode := roundAgain(n, way); got != want || code != wantCode {
			t.Errorf("NumRound(%+v, %d): %+v %d; want %+v %d", n, way, got, code, want, wantCode)
		}
		if code != 0 {
			continue
		}
		if !impl.NumOk(got) || got.Down != "1" {
			t.Errorf("NumRound(%+v, %d): %+v is not whole", n, way, got)
			continue
		}
		if !roundKeeps(n, got, way) {
			t.Errorf("NumRound(%+v, %d): %+v breaks the promise", n, way, got)
		}
		if n.Down == "1" && got != n {
			t.Errorf("NumRound(%+v, %d): %+v, and it is whole", n, way, got)
		}
	}
}

// roundKeeps is promise 6 of a way, in its own words.
func roundKeeps(n impl.Num, whole impl.Num, way int) bool {
	one, half := big.NewRat(1, 1), big.NewRat(1, 2)
	value, to := ratOf(n), ratOf(whole)
	away := new(big.Rat).Sub(value, to)
	size := new(big.Rat).Abs(away)
	switch way {
	case impl.NumDownward:
		return away.Sign() >= 0 && size.Cmp(one) < 0
	case impl.NumUpward:
		return away.Sign() <= 0 && size.Cmp(one) < 0
	case impl.NumInward:
		return to.Sign()*value.Sign() >= 0 && to.Abs(to).Cmp(value.Abs(value)) <= 0 && size.Cmp(one) < 0
	}
	order := size.Cmp(half)
	return order < 0 || order == 0 && to.Num().Bit(0) == 0
}

func TestRoundValues(t *testing.T) {
	for _, c := range []struct {
		text string
		want [4]string
	}{
		{"0", [4]string{"0", "0", "0", "0"}},
		{"7", [4]string{"7", "7", "7", "7"}},
		{"-7", [4]string{"-7", "-7", "-7", "-7"}},
		{"1/3", [4]string{"0", "1", "0", "0"}},
		{"-1/3", [4]string{"-1", "0", "0", "0"}},
		{"2/3", [4]string{"0", "1", "0", "1"}},
		{"-2/3", [4]string{"-1", "0", "0", "-1"}},
		{"7/3", [4]string{"2", "3", "2", "2"}},
		{"8/3", [4]string{"2", "3", "2", "3"}},
		{"-7/3", [4]string{"-3", "-2", "-2", "-2"}},
		{"-8/3", [4]string{"-3", "-2", "-2", "-3"}},
		{"1/2", [4]string{"0", "1", "0", "0"}},
		{"3/2", [4]string{"1", "2", "1", "2"}},
		{"5/2", [4]string{"2", "3", "2", "2"}},
		{"7/2", [4]string{"3", "4", "3", "4"}},
		{"-1/2", [4]string{"-1", "0", "0", "0"}},
		{"-3/2", [4]string{"-2", "-1", "-1", "-2"}},
		{"-5/2", [4]string{"-3", "-2", "-2", "-2"}},
		{"-7/2", [4]string{"-4", "-3", "-3", "-4"}},
		{"0.49999", [4]string{"0", "1", "0", "0"}},
		{"0.50001", [4]string{"0", "1", "0", "1"}},
		{"-1.49999", [4]string{"-2", "-1", "-1", "-1"}},
		{"-1.50001", [4]string{"-2", "-1", "-1", "-2"}},
		{"999999999.5", [4]string{"999999999", "1000000000", "999999999", "1000000000"}},
		{"-999999999.5", [4]string{"-1000000000", "-999999999", "-999999999", "-1000000000"}},
		{"1000000000.5", [4]string{"1000000000", "1000000001", "1000000000", "1000000000"}},
		{"1000000001.5", [4]string{"1000000001", "1000000002", "1000000001", "1000000002"}},
		{"999999999999999999.75", [4]string{"999999999999999999", "1000000000000000000", "999999999999999999", "1000000000000000000"}},
	} {
		n := number(t, c.text)
		for i, way := range roundWays {
			if got, code := impl.NumRound(n, way); got != number(t, c.want[i]) || code != 0 {
				t.Errorf("NumRound(%s, %d): %+v %d; want %s", c.text, way, got, code, c.want[i])
			}
		}
		checkRound(t, n)
	}
}

// Whole numbers, numbers between, and halves, above and below nought.
func TestRoundOfAllSmall(t *testing.T) {
	for up := -130; up <= 130; up++ {
		for down := 1; down <= 24; down++ {
			n, ok := numOfRat(big.NewRat(int64(up), int64(down)))
			if !ok {
				t.Fatal(up, down)
			}
			checkRound(t, n)
		}
	}
}

func TestRoundOfGreatAndHard(t *testing.T) {
	for _, n := range fieldNumbers(t) {
		checkRound(t, n)
	}
	for _, up := range hardDigits() {
		for _, down := range append(hardDigits(), "4", "1024") {
			for _, sign := range []string{"", "-"} {
				if n, ok := impl.NumParse(sign+up+"/"+down, 10); ok {
					checkRound(t, n)
				}
			}
		}
	}
	random := rand.New(rand.NewSource(6))
	for range 2000 {
		checkRound(t, someNumber(t, random, 59))
		checkRound(t, number(t, "-"+someWhole(random, 59).String()+"/2"))
	}
}

// Just a half, and the least more or less than that, with parts of up to 60 digits.
func TestRoundBesideHalves(t *testing.T) {
	even, odd := "4"+strings.Repeat("9", 58)+"8", strings.Repeat("3", 59)
	for _, c := range []struct {
		text, nearest string
	}{
		{nines + "/2", "5" + noughts},
		{"-" + nines + "/2", "-5" + noughts},
		{nines[1:] + "7/2", even}, // 499..98 and a half
		{"-" + nines[1:] + "7/2", "-" + even},
		{odd + ".5", strings.Repeat("3", 58) + "4"},
		{"-" + odd + ".5", "-" + strings.Repeat("3", 58) + "4"},
		{"4" + nines[1:] + "/" + nines, "0"},
		{"5" + noughts + "/" + nines, "1"},
		{"-4" + nines[1:] + "/" + nines, "0"},
		{"-5" + noughts + "/" + nines, "-1"},
		{nines + "/" + even, "2"},
	} {
		n := number(t, c.text)
		if got, code := impl.NumRound(n, impl.NumNearest); got != number(t, c.nearest) || code != 0 {
			t.Errorf("%s: %+v %d; want %s", c.text, got, code, c.nearest)
		}
		checkRound(t, n)
	}
}

// No number of at most 60 digits above comes to more than that: one that is not whole is at most half of it.
func TestRoundAtSixtyDigits(t *testing.T) {
	for _, c := range []struct {
		text     string
		down, up string
	}{
		{nines, nines, nines},
		{"-" + nines, "-" + nines, "-" + nines},
		{nines + "/2", "4" + nines[1:], "5" + noughts},
		{"-" + nines + "/2", "-5" + noughts, "-4" + nines[1:]},
		{nines + "/" + nines[1:] + "8", "1", "2"},
		{"-" + nines + "/" + nines[1:] + "8", "-2", "-1"},
		{"1/" + nines, "0", "1"},
		{"-1/" + nines, "-1", "0"},
		{nines[1:] + ".5", nines[1:], "1" + noughts}, // 59 digits, and just 60
		{"-" + nines[1:] + ".5", "-1" + noughts, "-" + nines[1:]},
	} {
		n := number(t, c.text)
		down, code := impl.NumRound(n, impl.NumDownward)
		up, upCode := impl.NumRound(n, impl.NumUpward)
		if down != number(t, c.down) || up != number(t, c.up) || code != 0 || upCode != 0 {
			t.Errorf("%s: %+v %d, %+v %d", c.text, down, code, up, upCode)
		}
		checkRound(t, n)
	}
}

func TestRoundRefuses(t *testing.T) {
	for _, way := range noWays {
		for _, n := range append(fieldNumbers(t), notOk...) {
			if got, code := impl.NumRound(n, way); got != (impl.Num{}) || code != 1 {
				t.Errorf("NumRound(%+v, %d): %+v %d", n, way, got, code)
			}
		}
	}
	for _, way := range roundWays {
		for _, n := range notOk {
			if got, code := impl.NumRound(n, way); got != (impl.Num{}) || code != 1 {
				t.Errorf("NumRound(%+v, %d): %+v %d", n, way, got, code)
			}
		}
	}
}

// wholeAnswers is what NumQuo, NumMod and NumGcd answer of two numbers.
type wholeAnswers struct {
	quo, rest impl.Num
	quoCode   int
	mod       impl.Num
	modCode   int
	gcd       impl.Num
	gcdCode   int
}

func wholeAnswersOf(a impl.Num, b impl.Num) wholeAnswers {
	var all wholeAnswers
	all.quo, all.rest, all.quoCode = impl.NumQuo(a, b)
	all.mod, all.modCode = impl.NumMod(a, b)
	all.gcd, all.gcdCode = impl.NumGcd(a, b)
	return all
}

// wholeAgain is what they are to answer of two numbers that are ok.
func wholeAgain(t *testing.T, a impl.Num, b impl.Num) wholeAnswers {
	t.Helper()
	if a.Down != "1" || b.Down != "1" {
		return wholeAnswers{quoCode: 4, modCode: 4, gcdCode: 4}
	}
	x, y := wholeOf(t, a), wholeOf(t, b)
	all := wholeAnswers{gcd: numOfBig(t, new(big.Int).GCD(nil, nil, new(big.Int).Abs(x), new(big.Int).Abs(y)))}
	if y.Sign() == 0 {
		all.quoCode, all.modCode = 2, 2
		return all
	}
	quo, rest := new(big.Int).QuoRem(x, y, new(big.Int))
	all.quo, all.rest = numOfBig(t, quo), numOfBig(t, rest)
	if rest.Sign()*y.Sign() < 0 {
		rest.Add(rest, y)
	}
	all.mod = numOfBig(t, rest)
	return all
}

func numOfBig(t *testing.T, value *big.Int) impl.Num {
	t.Helper()
	n, ok := numOfRat(new(big.Rat).SetInt(value))
	if !ok {
		t.Fatalf("%s is too big", value)
	}
	return n
}

// checkWhole holds the three against what they are to answer, and against promises 7 and 8.
func checkWhole(t *testing.T, a impl.Num, b impl.Num) {
	t.Helper()
	got := wholeAnswersOf(a, b)
	if want := wholeAgain(t, a, b); got != want {
		t.Errorf("of %+v, %+v: %+v; want %+v", a, b, got, want)
	}
	if got.quoCode == 0 {
		checkDivision(t, a, b, got)
	}
	if got.gcdCode == 0 {
		checkGcd(t, a, b, got.gcd)
	}
}

// checkDivision is promise 7, by the program's own field.
func checkDivision(t *testing.T, a impl.Num, b impl.Num, got wholeAnswers) {
	t.Helper()
	back := fieldOf(impl.NumAdd, fieldOf(impl.NumMul, got.quo, b), got.rest)
	same(t, "what NumQuo tells times the other one, and what is left", a, back, a)
	for _, left := range []impl.Num{got.rest, got.mod} {
		if !impl.NumOk(left) || impl.NumCmp(sizeOf(left), sizeOf(b)) >= 0 {
			t.Errorf("of %+v, %+v what is left is %+v", a, b, left)
		}
	}
	if signOf(got.rest)*signOf(a) < 0 || signOf(got.mod)*signOf(b) < 0 {
		t.Errorf("of %+v, %+v what is left is of another sign: %+v", a, b, got)
	}
	multiple := new(big.Int).Sub(wholeOf(t, a), wholeOf(t, got.mod))
	if multiple.Rem(multiple, wholeOf(t, b)).Sign() != 0 {
		t.Errorf("%+v less %+v is no multiple of %+v", a, got.mod, b)
	}
}

func sizeOf(n impl.Num) impl.Num {
	n.Neg = false
	return n
}

// checkGcd is promise 8, by the program's own division.
func checkGcd(t *testing.T, a impl.Num, b impl.Num, common impl.Num) {
	t.Helper()
	if other, code := impl.NumGcd(b, a); other != common || code != 0 {
		t.Errorf("NumGcd the other way of %+v, %+v: %+v %d; want %+v", a, b, other, code, common)
	}
	if a.Up == "0" && b.Up == "0" {
		same(t, "NumGcd of nought and nought", a, common, impl.NumInt(0))
		return
	}
	x, xLeft, xCode := impl.NumQuo(a, common)
	y, yLeft, yCode := impl.NumQuo(b, common)
	nought := impl.NumInt(0)
	if xCode != 0 || yCode != 0 || xLeft != nought || yLeft != nought || common.Neg {
		t.Errorf("NumGcd of %+v, %+v: %+v does not divide both", a, b, common)
	}
	if left, code := impl.NumGcd(x, y); left != impl.NumInt(1) || code != 0 {
		t.Errorf("NumGcd of %+v, %+v: %+v; what is left of them has %+v in common", a, b, common, left)
	}
}

// wholeNumbers are whole numbers of both signs, from nought to the greatest ones.
func wholeNumbers(t *testing.T) []impl.Num {
	all := []impl.Num{number(t, "0")}
	for _, text := range append(hardDigits(), "4", "6", "12", "30", "1000000007", "18446744073709551616") {
		if n, ok := impl.NumParse(text, 10); ok {
			all = append(all, n, number(t, "-"+text))
		}
	}
	return all
}

func TestWholeValues(t *testing.T) {
	for _, c := range []struct{ a, b, quo, rest, mod, gcd string }{
		{"7", "2", "3", "1", "1", "1"},
		{"-7", "2", "-3", "-1", "1", "1"},
		{"7", "-2", "-3", "1", "-1", "1"},
		{"-7", "-2", "3", "-1", "-1", "1"},
		{"12", "4", "3", "0", "0", "4"},
		{"-12", "4", "-3", "0", "0", "4"},
		{"12", "-4", "-3", "0", "0", "4"},
		{"-12", "-4", "3", "0", "0", "4"},
		{"0", "5", "0", "0", "0", "5"},
		{"0", "-5", "0", "0", "0", "5"},
		{"3", "5", "0", "3", "3", "1"},
		{"-3", "5", "0", "-3", "2", "1"},
		{"3", "-5", "0", "3", "-2", "1"},
		{"-3", "-5", "0", "-3", "-3", "1"},
		{"-12", "-8", "1", "-4", "-4", "4"},
		{"8", "12", "0", "8", "8", "4"},
		{"1", "1", "1", "0", "0", "1"},
		{"-6", "1", "-6", "0", "0", "1"},
		{"6", "-1", "-6", "0", "0", "1"},
		{"1000000000000000000", "999999999", "1000000001", "1", "1", "1"},
		{nines, "9", strings.Repeat("1", 60), "0", "0", "9"},
		{nines, "7", strings.Repeat("142857", 10), "0", "0", "7"},
		{"-" + nines, "8", "-124" + strings.Repeat("9", 57), "-7", "1", "1"},
		{nines, nines, "1", "0", "0", nines},
		{nines, "-" + nines[1:] + "8", "-1", "1", "-" + nines[1:] + "7", "1"},
		{"-" + nines[1:] + "8", nines, "0", "-" + nines[1:] + "8", "1", "1"},
		{"1" + noughts, nines, "0", "1" + noughts, "1" + noughts, "1"},
		{"-1" + noughts, "5" + noughts, "0", "-1" + noughts, "4" + noughts, "1" + noughts},
	} {
		a, b := number(t, c.a), number(t, c.b)
		want := wholeAnswers{quo: number(t, c.quo), rest: number(t, c.rest), mod: number(t, c.mod), gcd: number(t, c.gcd)}
		if got := wholeAnswersOf(a, b); got != want {
			t.Errorf("of %s, %s: %+v; want %+v", c.a, c.b, got, want)
		}
		checkWhole(t, a, b)
	}
}

func TestWholeOfAllSmall(t *testing.T) {
	for a := -40; a <= 40; a++ {
		for b := -40; b <= 40; b++ {
			checkWhole(t, impl.NumInt(a), impl.NumInt(b))
		}
	}
}

func TestWholeOfAllPairs(t *testing.T) {
	all := wholeNumbers(t)
	for _, a := range all {
		for _, b := range all {
			checkWhole(t, a, b)
		}
	}
}

func TestWholeOfSomePairs(t *testing.T) {
	random := rand.New(rand.NewSource(7))
	for range 3000 {
		a, b, common := someWhole(random, 30), someWhole(random, 30), someWhole(random, 29)
		a.Mul(a, common)
		b.Mul(b, common)
		if random.Intn(2) == 0 {
			a.Neg(a)
		}
		if random.Intn(2) == 0 {
			b.Neg(b)
		}
		checkWhole(t, numOfBig(t, a), numOfBig(t, b))
		checkWhole(t, numOfBig(t, a), numOfBig(t, common))
	}
}

// Both ways round; of nought and another one that one without its sign; of nought and nought nought.
func TestGcdOfNought(t *testing.T) {
	nought := impl.NumInt(0)
	for _, n := range wholeNumbers(t) {
		same(t, "NumGcd of it and nought", n, fieldOf(impl.NumGcd, n, nought), sizeOf(n))
		same(t, "NumGcd of nought and it", n, fieldOf(impl.NumGcd, nought, n), sizeOf(n))
	}
	if got, code := impl.NumGcd(nought, nought); got != nought || code != 0 {
		t.Errorf("NumGcd of nought and nought: %+v %d", got, code)
	}
}

func TestWholeByNought(t *testing.T) {
	nought := impl.NumInt(0)
	for _, n := range wholeNumbers(t) {
		got := wholeAnswersOf(n, nought)
		if want := (wholeAnswers{quoCode: 2, modCode: 2, gcd: sizeOf(n)}); got != want {
			t.Errorf("%+v by nought: %+v", n, got)
		}
	}
}

// Code 4 is looked for ahead of code 2, and code 1 ahead of both.
func TestWholeRefuses(t *testing.T) {
	var notWhole []impl.Num
	for _, text := range []string{"1/2", "-1/2", "7/3", "-7/3", "1/" + nines, nines + "/2", "-" + nines + "/" + nines[1:] + "8"} {
		notWhole = append(notWhole, number(t, text))
	}
	wholes := []impl.Num{impl.NumInt(0), impl.NumInt(1), impl.NumInt(-1), impl.NumInt(6), number(t, nines)}
	for _, broken := range notWhole {
		for _, other := range append(wholes, notWhole...) {
			checkWholeCode(t, broken, other, 4)
			checkWholeCode(t, other, broken, 4)
		}
	}
	for _, bad := range notOk {
		for _, other := range append(append(wholes, notWhole...), notOk...) {
			checkWholeCode(t, bad, other, 1)
			checkWholeCode(t, other, bad, 1)
		}
	}
}

func checkWholeCode(t *testing.T, a impl.Num, b impl.Num, code int) {
	t.Helper()
	want := wholeAnswers{quoCode: code, modCode: code, gcdCode: code}
	if got := wholeAnswersOf(a, b); got != want {
		t.Errorf("of %+v, %+v: %+v; want code %d", a, b, got, code)
	}
}
