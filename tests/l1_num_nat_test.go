package tests

import (
	"math"
	"math/big"
	"strings"
	"testing"

	"loop.example/sispass/impl"
)

func TestNumOk(t *testing.T) {
	most := strings.Repeat("9", 60)
	next := strings.Repeat("9", 59) + "8"
	for _, n := range []impl.Num{
		{Up: "0", Down: "1"},
		{Up: "1", Down: "1"},
		{Neg: true, Up: "1", Down: "1"},
		{Neg: true, Up: "3", Down: "2"},
		{Up: "1000000000", Down: "999999999"},
		{Up: most, Down: "1"},
		{Neg: true, Up: "1", Down: most},
		{Up: most, Down: next},
	} {
		if !impl.NumOk(n) {
			t.Errorf("%+v is ok", n)
		}
	}
}

func TestNumNotOk(t *testing.T) {
	tooLong := "1" + strings.Repeat("0", 60)
	for _, n := range []impl.Num{
		{},
		{Up: "1"},
		{Down: "1"},
		{Neg: true, Up: "0", Down: "1"},
		{Up: "0", Down: "2"},
		{Up: "0", Down: "0"},
		{Up: "1", Down: "0"},
		{Up: "00", Down: "1"},
		{Up: "01", Down: "1"},
		{Up: "1", Down: "01"},
		{Up: "2", Down: "4"},
		{Up: "6", Down: "3"},
		{Up: "999999999999", Down: "999999"},
		{Up: strings.Repeat("9", 60), Down: strings.Repeat("9", 59)},
		{Up: tooLong, Down: "1"},
		{Up: "1", Down: tooLong},
		{Up: strings.Repeat("0", 60) + "1", Down: "1"},
		{Up: "-1", Down: "1"},
		{Up: "+1", Down: "1"},
		{Up: "1.", Down: "1"},
		{Up: "1/1", Down: "1"},
		{Up: "a", Down: "1"},
		{Up: "1", Down: " 1"},
		{Up: "1:", Down: "1"},
		{Up: "1", Down: "1\x00"},
		{Up: "\xb1", Down: "1"},
		{Up: "1", Down: "１"},
	} {
		if impl.NumOk(n) {
			t.Errorf("%+v is not ok", n)
		}
	}
}

// Numbers whose digits make the groups within hard to divide: all nines, all noughts, halves.
func TestNumOkTellsLowestTerms(t *testing.T) {
	for _, up := range hardDigits() {
		for _, down := range hardDigits() {
			if len(up) > 60 || len(down) > 60 {
				continue
			}
			above, _ := new(big.Int).SetString(up, 10)
			below, _ := new(big.Int).SetString(down, 10)
			want := new(big.Int).GCD(nil, nil, above, below).Cmp(big.NewInt(1)) == 0
			if got := impl.NumOk(impl.Num{Up: up, Down: down}); got != want {
				t.Errorf("%s/%s: %v", up, down, got)
			}
		}
	}
}

// Promise 5.
func TestNumInt(t *testing.T) {
	for _, i := range []int{math.MinInt, math.MinInt + 1, math.MinInt32 - 1, -1_000_000_001, -1_000_000_000, -999_999_999, -100, -1, 0, 1, 9, 10, 99, 999_999_998, 999_999_999, 1_000_000_000, math.MaxInt32, 1_000_000_000_000_000_000 - 1, 1_000_000_000_000_000_000, math.MaxInt - 1, math.MaxInt} {
		n := impl.NumInt(i)
		if !impl.NumOk(n) || n.Neg != (i < 0) || (n.Up == "0") != (i == 0) || n.Down != "1" {
			t.Errorf("%d: %+v", i, n)
		}
		if value := wholeOf(t, n); value.Cmp(big.NewInt(int64(i))) != 0 {
			t.Errorf("%d: %+v", i, n)
		}
		if i < math.MaxInt {
			next := new(big.Int).Add(wholeOf(t, n), big.NewInt(1))
			if wholeOf(t, impl.NumInt(i+1)).Cmp(next) != 0 {
				t.Errorf("%d and one more: %+v", i, impl.NumInt(i+1))
			}
		}
	}
	least := impl.Num{Neg: true, Up: new(big.Int).Neg(big.NewInt(math.MinInt)).String(), Down: "1"}
	if impl.NumInt(math.MinInt) != least {
		t.Errorf("the least int: %+v", impl.NumInt(math.MinInt))
	}
}

func wholeOf(t *testing.T, n impl.Num) *big.Int {
	t.Helper()
	value, ok := new(big.Int).SetString(n.Up, 10)
	if !ok {
		t.Fatalf("no digits: %+v", n)
	}
	if n.Neg {
		value.Neg(value)
	}
	return value
}

// hardDigits are decimals without noughts ahead, up to 100 digits, with every pattern at the seams of groups.
func hardDigits() []string {
	all := []string{"1", "2", "3", "5", "7"}
	for _, size := range []int{8, 9, 10, 18, 19, 27, 36, 59, 60, 61, 100} {
		all = append(all,
			strings.Repeat("9", size),
			"1"+strings.Repeat("0", size-1),
			"1"+strings.Repeat("0", size-2)+"1",
			"5"+strings.Repeat("0", size-1),
			"4"+strings.Repeat("9", size-1),
			strings.Repeat("9", size-1)+"8",
			strings.Repeat("123456789", size)[:size],
			strings.Repeat("500000000", size)[:size],
			strings.Repeat("999999999000000000", size)[:size],
			strings.Repeat("100000000999999999", size)[:size],
		)
	}
	return all
}
