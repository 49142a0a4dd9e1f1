package tests

import (
	"math"
	"math/big"
	"math/rand"
	"strings"
	"testing"

	"loop.example/sispass/impl"
)

// noPowers are just beyond the bounds of powers, and far beyond them.
var noPowers = []int{
	impl.NumMaxPower + 1, -impl.NumMaxPower - 1, math.MinInt, math.MinInt + 1, math.MaxInt,
	1 << 32, 1<<32 + 1, -1 << 32, math.MinInt32, math.MaxInt32, 1 << 62, -1 << 62,
}

// powerAgain is what NumPower is to answer of a number that is ok, and a power within bounds.
func powerAgain(t *testing.T, a impl.Num, k int) (impl.Num, int) {
	t.Helper()
	value := ratOf(a)
	if k < 0 {
		if value.Sign() == 0 {
			return impl.Num{}, 2
		}
		value.Inv(value)
	}
	times := big.NewInt(int64(max(k, -k)))
	power := new(big.Rat).SetFrac(
		new(big.Int).Exp(value.Num(), times, nil),
		new(big.Int).Exp(value.Denom(), times, nil),
	)
	if n, ok := numOfRat(power); ok {
		return n, 0
	}
	return impl.Num{}, 3
}

func checkPower(t *testing.T, a impl.Num, k int) {
	t.Helper()
	got, code := impl.NumPower(a, k)
	if want, wantCode := powerAgain(t, a, k); got != want || code != wantCode {
		t.Errorf("NumPower(%+v, %d): %+v %d; want %+v %d", a, k, got, code, want, wantCode)
	}
	if code == 0 && !impl.NumOk(got) {
		t.Errorf("NumPower(%+v, %d): %+v is not ok", a, k, got)
	}
	checkPowerLaws(t, a, k)
}

// checkPowerLaws is promise 9 of NumPower, by the program's own field.
func checkPowerLaws(t *testing.T, a impl.Num, k int) {
	t.Helper()
	got, code := impl.NumPower(a, k)
	if code != 0 {
		return
	}
	if k > 0 {
		less, lessCode := impl.NumPower(a, k-1)
		if lessCode != 0 {
			t.Errorf("NumPower(%+v, %d) has the code %d, and one more has none", a, k-1, lessCode)
		}
		same(t, "once less, times it", a, fieldOf(impl.NumMul, less, a), got)
	}
	if other, otherCode := impl.NumPower(a, -k); otherCode == 0 && a.Up != "0" {
		same(t, "with k and with -k together", a, fieldOf(impl.NumMul, got, other), impl.NumInt(1))
	}
}

func TestPowerValues(t *testing.T) {
	for _, c := range []struct {
		a    string
		k    int
		want string // nothing: there is a code
		code int
	}{
		{"2", 10, "1024", 0},
		{"-2", 3, "-8", 0},
		{"-2", 4, "16", 0},
		{"-2/3", 3, "-8/27", 0},
		{"-2/3", -3, "-27/8", 0},
		{"-2/3", -4, "81/16", 0},
		{"5", -1, "1/5", 0},
		{"-5", -1, "-1/5", 0},
		{"3/7", 1, "3/7", 0},
		{"10", 9, "1000000000", 0},
		{"10", 18, "1000000000000000000", 0},
		{"0", 0, "1", 0},
		{"0", 1, "0", 0},
		{"0", 1000, "0", 0},
		{"0", -1, "", 2},
		{"0", -1000, "", 2},
		{"1", 1000, "1", 0},
		{"1", -1000, "1", 0},
		{"-1", 1000, "1", 0},
		{"-1", 999, "-1", 0},
		{"-1", -1000, "1", 0},
		{"-1", -999, "-1", 0},
		{"2", 1000, "", 3},
		{"2", -1000, "", 3},
		{"-1/2", 1000, "", 3},
		{"1", 1001, "", 1},
		{"0", -1001, "", 1},
		{"2", 1001, "", 1},
	} {
		a, want := number(t, c.a), impl.Num{}
		if c.want != "" {
			want = number(t, c.want)
		}
		if got, code := impl.NumPower(a, c.k); got != want || code != c.code {
			t.Errorf("NumPower(%s, %d): %+v %d; want %s %d", c.a, c.k, got, code, c.want, c.code)
		}
	}
}

// Every power of small ones, up to what is too big and somewhat beyond, and the bounds.
func TestPowerOfAllSmall(t *testing.T) {
	for up := -12; up <= 12; up++ {
		for down := 1; down <= 6; down++ {
			a, _ := numOfRat(big.NewRat(int64(up), int64(down)))
			for k := -210; k <= 210; k++ {
				checkPower(t, a, k)
			}
			for _, k := range []int{impl.NumMaxPower - 1, impl.NumMaxPower} {
				checkPower(t, a, k)
				checkPower(t, a, -k)
			}
		}
	}
}

// Of nought, 1 and -1 no power is too big.
func TestPowerOfUnits(t *testing.T) {
	for _, a := range []impl.Num{impl.NumInt(0), impl.NumInt(1), impl.NumInt(-1)} {
		for k := -impl.NumMaxPower; k <= impl.NumMaxPower; k++ {
			checkPower(t, a, k)
		}
	}
}

func TestPowerOfGreatAndHard(t *testing.T) {
	for _, a := range fieldNumbers(t) {
		for _, k := range []int{0, 1, -1, 2, -2, 3, -3, 59, 60, 61, impl.NumMaxPower, -impl.NumMaxPower} {
			checkPower(t, a, k)
		}
	}
	random := rand.New(rand.NewSource(8))
	for range 2000 {
		checkPower(t, someNumber(t, random, 1+random.Intn(59)), random.Intn(25)-12)
	}
}

// Just 60 digits above or below, and one more.
func TestPowerAtSixtyDigits(t *testing.T) {
	for _, c := range []struct {
		a string
		k int // the last power that is not too big
	}{
		{"2", 199}, {"-2", 199}, {"1/2", 199}, {"-1/2", 199}, {"3/2", 125}, {"-2/3", 125},
		{"10", 59}, {"1/10", 59}, {"10/9", 59}, {"9", 62},
		{"1" + noughts[:29], 2}, {strings.Repeat("9", 30), 2}, {"1" + noughts[:30], 1}, {strings.Repeat("9", 20), 3}, {"1/" + strings.Repeat("9", 15), 4},
		{nines, 1}, {"-1/" + nines, 1}, {nines + "/" + nines[1:] + "8", 1},
	} {
		a := number(t, c.a)
		for _, k := range []int{c.k, -c.k} {
			checkPower(t, a, k)
			if got, code := impl.NumPower(a, k); code != 0 {
				t.Errorf("NumPower(%s, %d): %+v %d", c.a, k, got, code)
			}
		}
		for _, k := range []int{c.k + 1, -c.k - 1} {
			checkPower(t, a, k)
			if got, code := impl.NumPower(a, k); got != (impl.Num{}) || code != 3 {
				t.Errorf("NumPower(%s, %d): %+v %d", c.a, k, got, code)
			}
		}
	}
	if got, _ := impl.NumPower(number(t, "10"), 59); got != number(t, "1"+noughts) {
		t.Errorf("%+v", got)
	}
}

// Code 1 is looked for ahead of the others, and code 2 ahead of what is too big.
func TestPowerRefuses(t *testing.T) {
	for _, k := range noPowers {
		for _, a := range append(fieldNumbers(t), notOk...) {
			checkPowerCode(t, a, k, 1)
		}
	}
	for _, a := range notOk {
		for _, k := range []int{0, 1, -1, 2, -2, impl.NumMaxPower, -impl.NumMaxPower} {
			checkPowerCode(t, a, k, 1)
		}
	}
	for k := -impl.NumMaxPower; k < 0; k++ {
		checkPowerCode(t, impl.NumInt(0), k, 2)
	}
}

func checkPowerCode(t *testing.T, a impl.Num, k int, want int) {
	t.Helper()
	if got, code := impl.NumPower(a, k); got != (impl.Num{}) || code != want {
		t.Errorf("NumPower(%+v, %d): %+v %d; want code %d", a, k, got, code, want)
	}
}

// checkRoot holds NumRoot of a whole number against the library, and against promise 9.
func checkRoot(t *testing.T, square *big.Int) {
	t.Helper()
	a := numOfBig(t, square)
	root, left, code := impl.NumRoot(a)
	if square.Sign() < 0 {
		if root != (impl.Num{}) || left != (impl.Num{}) || code != 4 {
			t.Errorf("NumRoot of %s: %+v %+v %d", square, root, left, code)
		}
		return
	}
	wantRoot := new(big.Int).Sqrt(square)
	wantLeft := new(big.Int).Sub(square, new(big.Int).Mul(wantRoot, wantRoot))
	if root != numOfBig(t, wantRoot) || left != numOfBig(t, wantLeft) || code != 0 {
		t.Errorf("NumRoot of %s: %+v %+v %d; want %s %s", square, root, left, code, wantRoot, wantLeft)
		return
	}
	own := fieldOf(impl.NumMul, root, root)
	next := fieldOf(impl.NumAdd, root, impl.NumInt(1))
	same(t, "the square and what is left", a, fieldOf(impl.NumAdd, own, left), a)
	if impl.NumCmp(own, a) > 0 {
		t.Errorf("NumRoot of %s: the square of %+v is above", square, root)
	}
	if above, code := impl.NumMul(next, next); code == 0 && impl.NumCmp(above, a) <= 0 {
		t.Errorf("NumRoot of %s: the square of one more than %+v is not above", square, root)
	}
}

func TestRootValues(t *testing.T) {
	for _, c := range []struct{ a, root, left string }{
		{"0", "0", "0"},
		{"1", "1", "0"},
		{"2", "1", "1"},
		{"3", "1", "2"},
		{"4", "2", "0"},
		{"8", "2", "4"},
		{"9", "3", "0"},
		{"10", "3", "1"},
		{"15", "3", "6"},
		{"16", "4", "0"},
		{"17", "4", "1"},
		{"99", "9", "18"},
		{"100", "10", "0"},
		{"999999999", "31622", "49115"},
		{"1000000000", "31622", "49116"},
		{"999999999999999999", "999999999", "1999999998"},
		{"1000000000000000000", "1000000000", "0"},
		{"1000000000000000001", "1000000000", "1"},
		{"1000000000000000000000000", "1000000000000", "0"},
		{nines, strings.Repeat("9", 30), "1" + strings.Repeat("9", 29) + "8"},
		{strings.Repeat("9", 29) + "8" + strings.Repeat("0", 29) + "1", strings.Repeat("9", 30), "0"},
		{strings.Repeat("9", 29) + "8" + strings.Repeat("0", 30), strings.Repeat("9", 29) + "8", "1" + strings.Repeat("9", 28) + "96"},
	} {
		root, left, code := impl.NumRoot(number(t, c.a))
		if root != number(t, c.root) || left != number(t, c.left) || code != 0 {
			t.Errorf("NumRoot of %s: %+v %+v %d", c.a, root, left, code)
		}
	}
}

func TestRootOfAllSmall(t *testing.T) {
	for i := int64(-20); i <= 3000; i++ {
		checkRoot(t, big.NewInt(i))
	}
}

// Squares, one less, and one more, up to 60 digits.
func TestRootBesideSquares(t *testing.T) {
	random := rand.New(rand.NewSource(9))
	greatest := wholeOf(t, number(t, strings.Repeat("9", 30)))
	roots := []*big.Int{big.NewInt(1), big.NewInt(2), greatest, new(big.Int).Sub(greatest, big.NewInt(1))}
	for range 3000 {
		roots = append(roots, someWhole(random, 30))
	}
	for _, digits := range hardDigits() {
		if len(digits) <= 30 {
			roots = append(roots, wholeOf(t, number(t, digits)))
		}
	}
	for _, root := range roots {
		square := new(big.Int).Mul(root, root)
		for _, more := range []int64{-1, 0, 1} {
			checkRoot(t, new(big.Int).Add(square, big.NewInt(more)))
		}
		checkRoot(t, square.Neg(square))
	}
}

func TestRootOfGreatAndHard(t *testing.T) {
	for _, n := range wholeNumbers(t) {
		checkRoot(t, wholeOf(t, n))
	}
	random := rand.New(rand.NewSource(10))
	for range 3000 {
		checkRoot(t, someWhole(random, 60))
	}
}

func TestRootRefuses(t *testing.T) {
	for _, text := range []string{"-1", "-4", "-" + nines, "1/2", "1/4", "-1/4", "9/4", "1/" + nines, nines + "/" + nines[1:] + "8"} {
		checkRootCode(t, number(t, text), 4)
	}
	for _, n := range append(notOk, impl.Num{Neg: true, Up: "2", Down: "4"}, impl.Num{Neg: true, Up: "01", Down: "1"}) {
		checkRootCode(t, n, 1) // Also of one that looks below nought, or not whole.
	}
}

func checkRootCode(t *testing.T, n impl.Num, want int) {
	t.Helper()
	root, left, code := impl.NumRoot(n)
	if root != (impl.Num{}) || left != (impl.Num{}) || code != want {
		t.Errorf("NumRoot of %+v: %+v %+v %d; want code %d", n, root, left, code, want)
	}
}
