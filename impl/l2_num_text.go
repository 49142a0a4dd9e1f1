package impl

import (
	"slices"
	"strings"
)

// parseMaxBytes bounds the texts that are read as numbers.
const parseMaxBytes = 4 * NumMaxDigits

const digitSigns = "0123456789abcdef"

// NumParse reads a number in a radix.
func NumParse(text string, radix int) (Num, bool) {
	r := numRadix(radix)
	if !r.isKnown() || len(text) > parseMaxBytes {
		return Num{}, false
	}
	neg, unsigned := cutSign(text)
	up, down, ok := r.readRatio(unsigned)
	if !ok || len(down) == 0 {
		return Num{}, false
	}
	return numOf(neg, up, down)
}

// NumPrint writes a number in a radix.
func NumPrint(n Num, radix int) string {
	r := numRadix(radix)
	if !r.isKnown() || !NumOk(n) {
		return ""
	}
	text := r.write(natOfDecimal(n.Up))
	if n.Neg {
		text = "-" + text
	}
	if n.Down != "1" {
		text += "/" + r.write(natOfDecimal(n.Down))
	}
	return text
}

// cutSign says whether a text begins with `-`, and tells what is behind its sign.
func cutSign(text string) (bool, string) {
	if unsigned, found := strings.CutPrefix(text, "-"); found {
		return true, unsigned
	}
	return false, strings.TrimPrefix(text, "+")
}

// numRadix is what digits are counted by.
type numRadix int

func (r numRadix) isKnown() bool {
	return r == 2 || r == 8 || r == 10 || r == 16
}

// digit is what a sign stands for; false if the radix has no such digit.
func (r numRadix) digit(sign rune) (uint64, bool) {
	value := uint64(0)
	switch {
	case '0' <= sign && sign <= '9':
		value = uint64(sign - '0')
	case 'a' <= sign && sign <= 'f':
		value = uint64(sign-'a') + 10
	default:
		return 0, false
	}
	return value, value < uint64(r)
}

// readRatio reads what is above and what is below, which may be nought.
func (r numRadix) readRatio(text string) (nat, nat, bool) {
	if above, below, found := strings.Cut(text, "/"); found {
		up, upOk := r.read(above)
		down, downOk := r.read(below)
		return up, down, upOk && downOk
	}
	whole, behind := text, ""
	if r == 10 {
		whole, behind, _ = strings.Cut(text, ".")
	}
	up, ok := r.read(whole + behind)
	return up, natOfTens(len(behind)), ok
}

// read reads one digit or more.
func (r numRadix) read(digits string) (nat, bool) {
	var n nat
	for _, sign := range digits {
		value, ok := r.digit(sign)
		if !ok {
			return nil, false
		}
		n = n.timesPlus(uint64(r), value)
	}
	return n, digits != ""
}

func (r numRadix) write(n nat) string {
	if len(n) == 0 {
		return "0"
	}
	var signs []byte
	for len(n) > 0 {
		rest, value := n.divideWord(uint64(r))
		signs = append(signs, digitSigns[value])
		n = rest
	}
	slices.Reverse(signs)
	return string(signs)
}
