package tests

import (
	"math/big"
	"math/rand"
	"strings"
	"testing"

	"loop.example/sispass/impl"
)

// checkParse holds NumParse against what it is to answer, and what it reads against NumPrint. (Promise 4.)
func checkParse(t *testing.T, text string, radix int) {
	t.Helper()
	got, ok := impl.NumParse(text, radix)
	want, wantOk := parseAgain(text, radix)
	if got != want || ok != wantOk {
		t.Errorf("NumParse(%q, %d): %+v %v; want %+v %v", text, radix, got, ok, want, wantOk)
	}
	if ok && !impl.NumOk(got) {
		t.Errorf("NumParse(%q, %d): %+v is not ok", text, radix, got)
	}
	if ok {
		checkBothWays(t, got)
	}
}

// checkBothWays prints and reads again in each radix. (Promise 4.)
func checkBothWays(t *testing.T, n impl.Num) {
	t.Helper()
	for _, radix := range radixes {
		text := impl.NumPrint(n, radix)
		if want := printAgain(n, radix); text != want {
			t.Errorf("NumPrint(%+v, %d): %q; want %q", n, radix, text, want)
		}
		back, ok := impl.NumParse(text, radix)
		if len(text) > 240 {
			if ok || back != (impl.Num{}) {
				t.Errorf("%q is too long: %+v %v", text, back, ok)
			}
		} else if !ok || back != n {
			t.Errorf("%+v in radix %d is %q, and that %+v %v", n, radix, text, back, ok)
		}
	}
}

// printAgain is what NumPrint is to answer of a number that is ok.
func printAgain(n impl.Num, radix int) string {
	up, _ := new(big.Int).SetString(n.Up, 10)
	down, _ := new(big.Int).SetString(n.Down, 10)
	text := up.Text(radix)
	if n.Neg {
		text = "-" + text
	}
	if n.Down != "1" {
		text += "/" + down.Text(radix)
	}
	return text
}

func TestNumParseValues(t *testing.T) {
	for _, c := range []struct {
		text  string
		radix int
		want  impl.Num
	}{
		{"7", 10, impl.Num{Up: "7", Down: "1"}},
		{"+7", 10, impl.Num{Up: "7", Down: "1"}},
		{"-7", 10, impl.Num{Neg: true, Up: "7", Down: "1"}},
		{"0", 2, impl.Num{Up: "0", Down: "1"}},
		{"-0", 10, impl.Num{Up: "0", Down: "1"}},
		{"-000", 16, impl.Num{Up: "0", Down: "1"}},
		{"-0/5", 10, impl.Num{Up: "0", Down: "1"}},
		{"-.0", 10, impl.Num{Up: "0", Down: "1"}},
		{"007", 10, impl.Num{Up: "7", Down: "1"}},
		{"006/004", 10, impl.Num{Up: "3", Down: "2"}},
		{"-6/4", 10, impl.Num{Neg: true, Up: "3", Down: "2"}},
		{"4/2", 10, impl.Num{Up: "2", Down: "1"}},
		{"1.25", 10, impl.Num{Up: "5", Down: "4"}},
		{"+00.50", 10, impl.Num{Up: "1", Down: "2"}},
		{".5", 10, impl.Num{Up: "1", Down: "2"}},
		{"-.5", 10, impl.Num{Neg: true, Up: "1", Down: "2"}},
		{"5.", 10, impl.Num{Up: "5", Down: "1"}},
		{"1.0000000001", 10, impl.Num{Up: "10000000001", Down: "10000000000"}},
		{"ff", 16, impl.Num{Up: "255", Down: "1"}},
		{"-a/f", 16, impl.Num{Neg: true, Up: "2", Down: "3"}},
		{"101/10", 2, impl.Num{Up: "5", Down: "2"}},
		{"17", 8, impl.Num{Up: "15", Down: "1"}},
	} {
		if n, ok := impl.NumParse(c.text, c.radix); n != c.want || !ok {
			t.Errorf("NumParse(%q, %d): %+v %v", c.text, c.radix, n, ok)
		}
		checkParse(t, c.text, c.radix)
	}
}

func TestNumParseRefuses(t *testing.T) {
	for _, c := range []struct {
		text  string
		radix int
	}{
		{"", 10}, {"+", 10}, {"-", 2}, {"+-1", 10}, {"--1", 10}, {"1-", 10}, {"1+", 10},
		{".", 10}, {"-.", 10}, {"1.2.3", 10}, {"..5", 10}, {"5..", 10}, {".-5", 10},
		{"/", 10}, {"1/", 10}, {"/1", 10}, {"1//2", 10}, {"1/2/3", 10}, {"1/-2", 10}, {"1/+2", 10}, {"-/2", 10},
		{"1.5/2", 10}, {"1/2.5", 10}, {"./1", 10}, {"1/.", 10}, {"1./2", 10},
		{"1/0", 10}, {"0/0", 10}, {"-1/000", 2}, {"0/0", 16},
		{"1.5", 2}, {"1.5", 8}, {"1.5", 16}, {"1.", 2}, {".1", 16},
		{"2", 2}, {"8", 8}, {"a", 10}, {"g", 16}, {"1/2", 2}, {"1/9", 8}, {"FF", 16}, {"A", 16},
		{"1", 0}, {"1", 1}, {"1", 3}, {"1", 9}, {"1", 11}, {"1", 12}, {"1", 15}, {"1", 17}, {"1", 36}, {"1", -10}, {"1", -1 << 63}, {"", 3},
		{" 1", 10}, {"1 ", 10}, {"1\n", 10}, {"1_000", 10}, {"0x1", 16}, {"1e3", 10}, {"1,5", 10}, {"1\x00", 10}, {":", 10}, {"`", 16}, {"@", 16},
		{"\xb1", 10}, {"1\xff", 10}, {"\x80", 16}, {"\xe1", 16}, {"１", 10}, {"٣", 10}, {"1/\xb2", 10}, {"1.\xb5", 10}, {"ı", 10}, {"š", 16},
	} {
		if n, ok := impl.NumParse(c.text, c.radix); ok || n != (impl.Num{}) {
			t.Errorf("NumParse(%q, %d): %+v %v", c.text, c.radix, n, ok)
		}
	}
}

func TestNumParseSizes(t *testing.T) {
	nines, noughts := strings.Repeat("9", 60), strings.Repeat("0", 60)
	for _, c := range []struct {
		text string
		ok   bool
	}{
		{strings.Repeat("0", 239) + "1", true}, // 240 bytes
		{strings.Repeat("0", 240) + "1", false},
		{"-" + strings.Repeat("0", 238) + "1", true}, // 240 bytes with the sign
		{"-" + strings.Repeat("0", 239) + "1", false},
		{"1." + strings.Repeat("0", 238), true},
		{"1." + strings.Repeat("0", 239), false},
		{"1/" + strings.Repeat("0", 237) + "2", true},
		{"1/" + strings.Repeat("0", 238) + "2", false},
		{nines, true},
		{"-" + nines, true},
		{"9" + nines, false},
		{"1" + noughts, false},
		{"1/" + nines, true},
		{"1/1" + noughts, false},
		{nines + "/" + nines[:59] + "8", true},
		{"2" + noughts + "/2", false},
		{"2" + noughts + "/20", true}, // 60 digits in lowest terms
		{"2/2" + noughts, false},
		{"20/2" + noughts, true},
		{nines + noughts + "/1" + noughts, true},
		{"." + noughts[1:] + "1", false}, // 1 with 60 noughts below
		{"." + noughts[1:] + "2", true},
		{"." + noughts[2:] + "1", true},
		{nines + "." + noughts, true},
		{nines + ".5", false},
		{nines[1:] + ".5", true},
	} {
		if n, ok := impl.NumParse(c.text, 10); ok != c.ok || !ok && n != (impl.Num{}) {
			t.Errorf("NumParse(%q): %+v %v", c.text, n, ok)
		}
		checkParse(t, c.text, 10)
	}
}

// The greatest number, and one more, in each radix.
func TestNumParseGreatest(t *testing.T) {
	more := new(big.Int).Exp(big.NewInt(10), big.NewInt(60), nil)
	greatest := new(big.Int).Sub(more, big.NewInt(1))
	for _, radix := range radixes {
		if _, ok := impl.NumParse(greatest.Text(radix), radix); !ok {
			t.Errorf("radix %d: the greatest", radix)
		}
		if n, ok := impl.NumParse(more.Text(radix), radix); ok {
			t.Errorf("radix %d: %+v", radix, n)
		}
		checkParse(t, "-"+greatest.Text(radix), radix)
		checkParse(t, "1/"+more.Text(radix), radix)
	}
}

// Every text of up to four of these signs, in every radix and some that are none.
func TestNumParseAllShort(t *testing.T) {
	texts := []string{""}
	for range 5 {
		for _, text := range texts {
			checkAllRadixes(t, text)
		}
		texts = longer(texts)
	}
}

func longer(texts []string) []string {
	var all []string
	for _, text := range texts {
		for _, sign := range []string{"+", "-", ".", "/", "0", "1", "7", "9", "a", "f", "g", "\xb1"} {
			all = append(all, text+sign)
		}
	}
	return all
}

func checkAllRadixes(t *testing.T, text string) {
	t.Helper()
	for _, radix := range []int{-2, 0, 2, 3, 8, 10, 16} {
		got, ok := impl.NumParse(text, radix)
		if want, wantOk := parseAgain(text, radix); got != want || ok != wantOk {
			t.Errorf("NumParse(%q, %d): %+v %v; want %+v %v", text, radix, got, ok, want, wantOk)
		}
	}
}

func TestNumParseHardDigits(t *testing.T) {
	for _, up := range hardDigits() {
		for _, down := range hardDigits() {
			checkParse(t, up+"/"+down, 10)
		}
		checkParse(t, up+"."+up, 10)
		checkParse(t, up, 16)
	}
}

// Products of the same two, so that much goes away in lowest terms.
func TestNumParseLowestTerms(t *testing.T) {
	random := rand.New(rand.NewSource(1))
	for range 2000 {
		up, down, common := someWhole(random, 60), someWhole(random, 60), someWhole(random, 59)
		up.Mul(up, common)
		down.Mul(down, common)
		for _, radix := range radixes {
			checkParse(t, up.Text(radix)+"/"+down.Text(radix), radix)
		}
	}
}

// someWhole is a whole number of up to so many digits, not nought, now and then with many nines or noughts in it.
func someWhole(random *rand.Rand, most int) *big.Int {
	var digits strings.Builder
	digits.WriteByte('1' + byte(random.Intn(9)))
	for range random.Intn(most) {
		digits.WriteByte("0123456789000999"[random.Intn(16)])
	}
	value, _ := new(big.Int).SetString(digits.String(), 10)
	return value
}

func TestNumPrintValues(t *testing.T) {
	for _, c := range []struct {
		n     impl.Num
		radix int
		want  string
	}{
		{impl.Num{Up: "0", Down: "1"}, 2, "0"},
		{impl.Num{Up: "10", Down: "3"}, 2, "1010/11"},
		{impl.Num{Neg: true, Up: "15", Down: "8"}, 8, "-17/10"},
		{impl.Num{Up: "1000000000", Down: "1"}, 10, "1000000000"},
		{impl.Num{Neg: true, Up: "1", Down: "1000000007"}, 10, "-1/1000000007"},
		{impl.Num{Up: "2748", Down: "1"}, 16, "abc"},
		{impl.NumInt(-1 << 63), 16, "-8000000000000000"},
	} {
		if got := impl.NumPrint(c.n, c.radix); got != c.want {
			t.Errorf("NumPrint(%+v, %d): %q", c.n, c.radix, got)
		}
	}
}

func TestNumPrintRefuses(t *testing.T) {
	one := impl.NumInt(1)
	for _, radix := range []int{-16, -1, 0, 1, 3, 7, 9, 11, 15, 17, 32, 36} {
		if got := impl.NumPrint(one, radix); got != "" {
			t.Errorf("radix %d: %q", radix, got)
		}
	}
	for _, n := range []impl.Num{
		{},
		{Up: "1"},
		{Up: "2", Down: "4"},
		{Up: "1", Down: "0"},
		{Up: "01", Down: "1"},
		{Neg: true, Up: "0", Down: "1"},
		{Up: "x", Down: "1"},
		{Up: "\xb1", Down: "1"},
		{Up: strings.Repeat("9", 61), Down: "1"},
		{Up: "1", Down: strings.Repeat("9", 61)},
	} {
		for _, radix := range radixes {
			if got := impl.NumPrint(n, radix); got != "" {
				t.Errorf("NumPrint(%+v, %d): %q", n, radix, got)
			}
		}
	}
}

// A text may be too long to be read again, and just short enough.
func TestNumPrintTooLongToRead(t *testing.T) {
	nines := strings.Repeat("9", 60)
	long := impl.Num{Neg: true, Up: nines, Down: nines[:59] + "8"}
	if text := impl.NumPrint(long, 2); len(text) <= 240 {
		t.Errorf("%q", text)
	}
	checkBothWays(t, long)
	for shift := range uint(45) { // Among them are texts of just 240 bytes and of one more.
		down := new(big.Int).Lsh(big.NewInt(1), shift)
		checkBothWays(t, impl.Num{Up: nines, Down: down.String()})
		checkBothWays(t, impl.Num{Neg: true, Up: nines, Down: down.String()})
	}
}
