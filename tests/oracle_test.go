package tests

import (
	"math/big"
	"regexp"
	"strings"

	"loop.example/sispass/impl"
)

// These say again, by the library's big numbers, what the document says of numbers and their texts.

var radixes = []int{2, 8, 10, 16}

var digitsOf = map[int]string{2: "[01]", 8: "[0-7]", 10: "[0-9]", 16: "[0-9a-f]"}

var numberTexts = makeNumberTexts()

func makeNumberTexts() map[int]*regexp.Regexp {
	texts := map[int]*regexp.Regexp{}
	for radix, d := range digitsOf {
		form := d + "+|" + d + "+/" + d + "+"
		if radix == 10 {
			form += `|[0-9]+\.[0-9]*|\.[0-9]+`
		}
		texts[radix] = regexp.MustCompile(`\A[+-]?(?:` + form + `)\z`)
	}
	return texts
}

// numOfRat is a number as the document has it; false if it is too big.
func numOfRat(r *big.Rat) (impl.Num, bool) {
	up, down := new(big.Int).Abs(r.Num()).String(), r.Denom().String()
	if len(up) > impl.NumMaxDigits || len(down) > impl.NumMaxDigits {
		return impl.Num{}, false
	}
	return impl.Num{Neg: r.Sign() < 0, Up: up, Down: down}, true
}

// parseAgain is what NumParse is to answer.
func parseAgain(text string, radix int) (impl.Num, bool) {
	form := numberTexts[radix]
	if form == nil || len(text) > 240 || !form.MatchString(text) {
		return impl.Num{}, false
	}
	unsigned := strings.TrimLeft(text, "+-")
	above, below, _ := strings.Cut(unsigned, "/")
	whole, behind, _ := strings.Cut(above, ".")
	up, _ := new(big.Int).SetString(whole+behind, radix)
	down := new(big.Int).Exp(big.NewInt(10), big.NewInt(int64(len(behind))), nil)
	if below != "" {
		down, _ = new(big.Int).SetString(below, radix)
	}
	if down.Sign() == 0 {
		return impl.Num{}, false
	}
	if strings.HasPrefix(text, "-") {
		up.Neg(up)
	}
	return numOfRat(new(big.Rat).SetFrac(up, down))
}

// ratOf is the value of a number that is ok.
func ratOf(n impl.Num) *big.Rat {
	text := n.Up + "/" + n.Down
	if n.Neg {
		text = "-" + text
	}
	value, _ := new(big.Rat).SetString(text)
	return value
}
