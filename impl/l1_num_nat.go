package impl

import (
	"cmp"
	"slices"
	"strconv"
)

// NumMaxDigits bounds the digits of what is answered.
const NumMaxDigits = 60

// Num is an exact rational in lowest terms: decimal digits above and below.
type Num struct {
	Neg  bool
	Up   string
	Down string
}

// NumOk says whether a number is ok.
func NumOk(n Num) bool {
	if !isDecimal(n.Up) || !isDecimal(n.Down) || n.Down == "0" || n.Neg && n.Up == "0" {
		return false
	}
	return natOfDecimal(n.Up).gcd(natOfDecimal(n.Down)).isOne()
}

// NumInt is a small integer as a number.
func NumInt(i int) Num {
	size := uint64(i)
	if i < 0 {
		size = -size // As a word, not as an int: the least int has no opposite one.
	}
	up := make([]byte, 0, digitRoom(size))
	return Num{Neg: i < 0, Up: string(natOfWord(size).appendDecimal(up)), Down: "1"}
}

// isDecimal says whether a text can stand above or below in a number that is ok.
func isDecimal(text string) bool {
	if text == "" || len(text) > NumMaxDigits || text[0] == '0' && text != "0" {
		return false
	}
	for _, sign := range text {
		if sign < '0' || sign > '9' {
			return false
		}
	}
	return true
}

// numOf is up over down, which is not nought, in lowest terms; false if that is too big.
func numOf(neg bool, up nat, down nat) (Num, bool) {
	common := up.gcd(down)
	above, _ := up.divide(common)
	below, _ := down.divide(common)
	n := Num{Neg: neg && len(above) > 0, Up: above.decimal(), Down: below.decimal()}
	if len(n.Up) > NumMaxDigits || len(n.Down) > NumMaxDigits {
		return Num{}, false
	}
	return n, true
}

// Nine digits a group: so the product of two groups, and what is carried, fit into one word.
const (
	groupDigits = 9
	groupBase   = 1_000_000_000
)

// powersOfTen has ten to the power of each place in a group, and of the group's size.
// Only room is told by it; answers come of powerOfTen, so that none hangs on what start-up has done.
var powersOfTen [groupDigits + 1]uint64

func init() {
	for place := range powersOfTen {
		powersOfTen[place] = powerOfTen(place)
	}
}

// powerOfTen is ten to the power of a place in a group, or of the group's size.
func powerOfTen(place int) uint64 {
	power := uint64(1)
	for range place {
		power *= 10
	}
	return power
}

// digitRoom is how many digits a word has, as far as powersOfTen goes.
func digitRoom(word uint64) int {
	digits := 0
	for _, power := range powersOfTen {
		if word >= power {
			digits++
		}
	}
	return digits
}

// nat is a whole number from nought on: groups of digits, the lowest first, the last one not nought; nought has none.
// No function changes one that it is given, so they may share their groups.
type nat []uint64

func natOfWord(word uint64) nat {
	var n nat
	for ; word > 0; word /= groupBase {
		n = append(n, word%groupBase)
	}
	return n
}

// natOfDecimal reads decimal digits, and nothing else.
func natOfDecimal(digits string) nat {
	n := make(nat, (len(digits)+groupDigits-1)/groupDigits)
	for i := range len(digits) {
		place := len(digits) - 1 - i
		n[place/groupDigits] += uint64(digits[i]-'0') * powerOfTen(place%groupDigits)
	}
	return n.trim()
}

// natOfTens is ten to a power from nought on.
func natOfTens(power int) nat {
	n := make(nat, power/groupDigits+1)
	n[power/groupDigits] = powerOfTen(power % groupDigits)
	return n
}

func (n nat) decimal() string {
	return string(n.appendDecimal(nil))
}

// appendDecimal puts the decimal digits behind others.
func (n nat) appendDecimal(digits []byte) []byte {
	if len(n) == 0 {
		return append(digits, '0')
	}
	top := len(n) - 1
	digits = strconv.AppendUint(digits, n[top], 10)
	for _, group := range slices.Backward(n[:top]) {
		for place := groupDigits - 1; place >= 0; place-- {
			digits = append(digits, '0'+byte(group/powerOfTen(place)%10))
		}
	}
	return digits
}

// trim leaves out the groups at the top that are nought.
func (n nat) trim() nat {
	for len(n) > 0 && n[len(n)-1] == 0 {
		n = n[:len(n)-1]
	}
	return n
}

func (n nat) isOne() bool {
	return len(n) == 1 && n[0] == 1
}

func (n nat) compare(other nat) int {
	if len(n) != len(other) {
		return cmp.Compare(len(n), len(other))
	}
	for i, group := range slices.Backward(n) {
		if group != other[i] {
			return cmp.Compare(group, other[i])
		}
	}
	return 0
}

func (n nat) plus(other nat) nat {
	sum := make(nat, max(len(n), len(other))+1)
	carry := uint64(0)
	for i := range sum {
		if i < len(n) {
			carry += n[i]
		}
		if i < len(other) {
			carry += other[i]
		}
		sum[i] = carry % groupBase
		carry /= groupBase
	}
	return sum.trim()
}

// minus takes away another one that is not more.
func (n nat) minus(other nat) nat {
	left := slices.Clone(n)
	borrow := uint64(0)
	for i := range left {
		take := borrow
		if i < len(other) {
			take += other[i]
		}
		borrow = 0
		if left[i] < take {
			left[i] += groupBase
			borrow = 1
		}
		left[i] -= take
	}
	return left.trim()
}

func (n nat) times(other nat) nat {
	product := make(nat, len(n)+len(other))
	for i, group := range n {
		carry := uint64(0)
		for j, by := range other {
			carry += product[i+j] + group*by
			product[i+j] = carry % groupBase
			carry /= groupBase
		}
		product[i+len(other)] = carry
	}
	return product.trim()
}

// timesPlus is n so many times, and more; both are less than groupBase.
func (n nat) timesPlus(times uint64, more uint64) nat {
	product := make(nat, len(n)+1)
	carry := more
	for i, group := range n {
		carry += group * times
		product[i] = carry % groupBase
		carry /= groupBase
	}
	product[len(n)] = carry
	return product.trim()
}

// divideWord divides by a word that is not nought and at most groupBase: what comes of it, and what is left.
func (n nat) divideWord(by uint64) (nat, uint64) {
	quotient := make(nat, len(n))
	rest := uint64(0)
	for i, group := range slices.Backward(n) {
		rest = rest*groupBase + group
		quotient[i] = rest / by
		rest %= by
	}
	return quotient.trim(), rest
}

// divide divides by one that is not nought: what comes of it, and what is left.
func (n nat) divide(by nat) (nat, nat) {
	if len(by) == 1 {
		quotient, rest := n.divideWord(by[0])
		return quotient, natOfWord(rest)
	}
	if n.compare(by) < 0 {
		return nil, n
	}
	// With both so many times as great the same comes of it, and divideOnce guesses well.
	scale := groupBase / (by[len(by)-1] + 1)
	scaled, divisor := n.timesPlus(scale, 0), by.timesPlus(scale, 0)
	quotient := make(nat, len(scaled))
	var rest nat
	for i, group := range slices.Backward(scaled) {
		rest = append(nat{group}, rest...).trim()
		quotient[i], rest = rest.divideOnce(divisor)
	}
	left, _ := rest.divideWord(scale)
	return quotient.trim(), left
}

// divideOnce divides by one whose last group is at least half of groupBase, if less than groupBase comes of it.
// So the guess by the last groups is at most two too many.
func (n nat) divideOnce(by nat) (uint64, nat) {
	top := len(by) - 1
	if len(n) <= top {
		return 0, n
	}
	high := n[top]
	if len(n) > top+1 {
		high += n[top+1] * groupBase
	}
	guess := min(high/by[top], groupBase-1)
	product := by.timesPlus(guess, 0)
	for product.compare(n) > 0 {
		guess--
		product = product.minus(by)
	}
	return guess, n.minus(product)
}

// gcd is the greatest one that divides both; that of nought and another one is that.
func (n nat) gcd(other nat) nat {
	for len(other) > 0 {
		_, rest := n.divide(other)
		n, other = other, rest
	}
	return n
}
