package rat_test

import (
	"math"
	"math/big"
	"math/rand"
	"slices"
	"strings"
	"testing"

	"rivermark/api"
	"rivermark/rat"
)

// isValid is what P5.1 says, in terms of math/big.
func isValid(a api.Rat) bool {
	if !a.Neg && a.Num == "" && a.Den == "" {
		return true
	}
	if a.Num == "" || a.Den == "" || a.Num[0] == 0 || a.Den[0] == 0 {
		return false
	}
	num, den := new(big.Int).SetBytes([]byte(a.Num)), new(big.Int).SetBytes([]byte(a.Den))
	return new(big.Int).GCD(nil, nil, num, den).IsInt64() && new(big.Int).GCD(nil, nil, num, den).Int64() == 1
}

// bigOf returns the value of a number, which is 0 if it is not valid.
func bigOf(a api.Rat) *big.Rat {
	if !isValid(a) || a == (api.Rat{}) {
		return new(big.Rat)
	}
	x := new(big.Rat).SetFrac(new(big.Int).SetBytes([]byte(a.Num)), new(big.Int).SetBytes([]byte(a.Den)))
	if a.Neg {
		x.Neg(x)
	}
	return x
}

// numberOf returns the one valid number with a value.
func numberOf(x *big.Rat) api.Rat {
	if x.Sign() == 0 {
		return api.Rat{}
	}
	return api.Rat{Neg: x.Sign() < 0, Num: string(new(big.Int).Abs(x.Num()).Bytes()), Den: string(x.Denom().Bytes())}
}

// quotient returns num / den, which has to exist.
func quotient(num, den int) api.Rat {
	a, _ := rat.Make(num, den)
	return a
}

// invalid are numbers that are not valid, each for another reason; all of them count as 0.
var invalid = []api.Rat{
	{Neg: true},
	{Num: "\x01"},
	{Den: "\x01"},
	{Neg: true, Den: "\x01"},
	{Neg: true, Num: "\x01"},
	{Num: "\x00", Den: "\x01"},
	{Num: "\x01", Den: "\x00"},
	{Num: "\x00\x01", Den: "\x01"},
	{Num: "\x01", Den: "\x00\x01"},
	{Num: "\x02", Den: "\x04"},
	{Num: "\x02", Den: "\x02"},
	{Neg: true, Num: "\x06", Den: "\x03"},
	{Num: "\x00\x03", Den: "\x02"},
	{Num: strings.Repeat("\xff", 9), Den: strings.Repeat("\xff", 3)},
	{Num: strings.Repeat("\x03", 40), Den: strings.Repeat("\x05", 50)},
}

// natural returns a natural number of up to a number of bytes, often of few digits that are not 0.
func natural(rng *rand.Rand, length int) *big.Int {
	b := make([]byte, rng.Intn(length)+1)
	for i := range b {
		b[i] = byte(rng.Intn(256)) & byte(-rng.Intn(2))
	}
	return new(big.Int).SetBytes(b)
}

// number returns a number, valid or not, with small or long parts.
func number(rng *rand.Rand) api.Rat {
	switch rng.Intn(8) {
	case 0:
		return invalid[rng.Intn(len(invalid))]
	case 1:
		return api.Rat{}
	case 2:
		return rat.Int(rng.Intn(9) - 4)
	case 3:
		return api.Rat{Neg: rng.Intn(2) == 0, Num: string(natural(rng, 2).Bytes()), Den: string(natural(rng, 2).Bytes())}
	case 4, 5:
		return quotient(rng.Intn(60)-30, rng.Intn(30)+1)
	}
	x := new(big.Rat).SetFrac(natural(rng, 30), new(big.Int).Add(natural(rng, 20), big.NewInt(1)))
	if rng.Intn(2) == 0 {
		x.Neg(x)
	}
	return numberOf(x)
}

// pairs calls a function with many pairs of numbers.
func pairs(f func(a, b api.Rat)) {
	for _, a := range invalid {
		for _, b := range append([]api.Rat{{}, rat.Int(1), quotient(-1, 2)}, invalid...) {
			f(a, b)
			f(b, a)
		}
	}
	for num := -6; num <= 6; num++ {
		for den := range 5 {
			for other := -6; other <= 6; other++ {
				for below := range 5 {
					f(quotient(num, den+1), quotient(other, below+1))
				}
			}
		}
	}
	rng := rand.New(rand.NewSource(5))
	for range 20000 {
		f(number(rng), number(rng))
	}
}

func TestValid(t *testing.T) {
	for _, a := range invalid {
		if rat.Valid(a) {
			t.Errorf("P5.1: %#v is valid", a)
		}
	}
	pairs(func(a, _ api.Rat) {
		if rat.Valid(a) != isValid(a) {
			t.Fatalf("P5.1: Valid of %#v is %#v", a, rat.Valid(a))
		}
	})
	for num := range 70 {
		for den := range 70 {
			for _, neg := range []bool{false, true} {
				a := api.Rat{Neg: neg, Num: string(big.NewInt(int64(num)).Bytes()), Den: string(big.NewInt(int64(den)).Bytes())}
				if rat.Valid(a) != isValid(a) {
					t.Errorf("P5.1: Valid of %#v is %#v", a, rat.Valid(a))
				}
			}
		}
	}
}

func TestMake(t *testing.T) {
	ends := []int{math.MinInt, math.MinInt + 1, -api.MaxInt - 1, -api.MaxInt, -api.MaxInt / 3, -300, -7, -1, 0, 1, 2, 6, 128, 255, 256, api.MaxInt / 9, api.MaxInt - 1, api.MaxInt, api.MaxInt + 1, math.MaxInt}
	outside := func(n int) bool { return n < -api.MaxInt || n > api.MaxInt }
	for _, num := range ends {
		for _, den := range ends {
			a, e := rat.Make(num, den)
			switch {
			case outside(num) || outside(den):
				if a != (api.Rat{}) || e != api.ErrRange {
					t.Errorf("P5.2: Make of %d, %d is %#v, %#v", num, den, a, e)
				}
			case den == 0:
				if a != (api.Rat{}) || e != api.ErrArg {
					t.Errorf("P5.2: Make of %d, %d is %#v, %#v", num, den, a, e)
				}
			default:
				if want := numberOf(big.NewRat(int64(num), int64(den))); a != want || e != api.OK {
					t.Errorf("P5.2: Make of %d, %d is %#v, %#v", num, den, a, e)
				}
			}
		}
	}
	if a, e := rat.Make(6, -4); e != api.OK || a != (api.Rat{Neg: true, Num: "\x03", Den: "\x02"}) {
		t.Errorf("P5.2: Make of 6, -4 is %#v, %#v", a, e)
	}
}

func TestInt(t *testing.T) {
	for n := -1000; n <= 1000; n++ {
		if a := rat.Int(n); a != numberOf(big.NewRat(int64(n), 1)) {
			t.Errorf("P5.2: Int of %d is %#v", n, a)
		}
	}
	for _, n := range []int{-api.MaxInt, api.MaxInt, -api.MaxInt + 1, 1 << 40} {
		if a := rat.Int(n); a != numberOf(big.NewRat(int64(n), 1)) {
			t.Errorf("P5.2: Int of %d is %#v", n, a)
		}
	}
	for _, n := range []int{-api.MaxInt - 1, api.MaxInt + 1, math.MinInt, math.MaxInt} {
		if a := rat.Int(n); a != (api.Rat{}) {
			t.Errorf("P5.2: Int of %d is %#v", n, a)
		}
	}
}

func TestOperations(t *testing.T) {
	pairs(func(a, b api.Rat) {
		x, y := bigOf(a), bigOf(b)
		if got := rat.Neg(a); got != numberOf(new(big.Rat).Neg(x)) {
			t.Fatalf("P5.3: Neg of %#v is %#v", a, got)
		}
		if got := rat.Add(a, b); got != numberOf(new(big.Rat).Add(x, y)) {
			t.Fatalf("P5.3: Add of %#v and %#v is %#v", a, b, got)
		}
		if got := rat.Sub(a, b); got != numberOf(new(big.Rat).Sub(x, y)) {
			t.Fatalf("P5.3: Sub of %#v and %#v is %#v", a, b, got)
		}
		if got := rat.Mul(a, b); got != numberOf(new(big.Rat).Mul(x, y)) {
			t.Fatalf("P5.3: Mul of %#v and %#v is %#v", a, b, got)
		}
		got, e := rat.Div(a, b)
		if y.Sign() == 0 && (got != (api.Rat{}) || e != api.ErrArg) {
			t.Fatalf("P5.3: Div of %#v by %#v is %#v, %#v", a, b, got, e)
		}
		if y.Sign() != 0 && (got != numberOf(new(big.Rat).Quo(x, y)) || e != api.OK) {
			t.Fatalf("P5.3: Div of %#v by %#v is %#v, %#v", a, b, got, e)
		}
	})
}

func TestSum(t *testing.T) {
	if rat.Sum(nil) != (api.Rat{}) || rat.Sum([]api.Rat{}) != (api.Rat{}) {
		t.Error("P5.3: the sum of an empty list")
	}
	rng := rand.New(rand.NewSource(53))
	for range 3000 {
		l := make([]api.Rat, rng.Intn(12))
		want := new(big.Rat)
		for i := range l {
			l[i] = number(rng)
			want.Add(want, bigOf(l[i]))
		}
		before := slices.Clone(l)
		if got := rat.Sum(l); got != numberOf(want) {
			t.Fatalf("P5.3: the sum of %#v is %#v", l, got)
		}
		if !slices.Equal(l, before) {
			t.Fatalf("P5.3: the sum changes its list")
		}
	}
	if got := rat.Sum([]api.Rat{quotient(1, 2), quotient(1, 3), quotient(-5, 6)}); got != (api.Rat{}) {
		t.Errorf("P5.3: 1/2 + 1/3 - 5/6 is %#v", got)
	}
}

// TestLongSum has denominators that have little in common, so that the sums of parts of the list are long.
func TestLongSum(t *testing.T) {
	var l []api.Rat
	want := new(big.Rat)
	for i := 1; i < 1000; i++ {
		l = append(l, quotient(7-i, i*i+1))
		want.Add(want, big.NewRat(int64(7-i), int64(i*i+1)))
	}
	if rat.Sum(l) != numberOf(want) {
		t.Error("P5.3: a sum of many numbers")
	}
}

func TestCmp(t *testing.T) {
	pairs(func(a, b api.Rat) {
		x, y := bigOf(a), bigOf(b)
		if got := rat.Cmp(a, b); got != x.Cmp(y) {
			t.Fatalf("P5.4: Cmp of %#v and %#v is %d", a, b, got)
		}
		least, greatest := x, y
		if x.Cmp(y) > 0 {
			least, greatest = y, x
		}
		if got := rat.Min(a, b); got != numberOf(least) {
			t.Fatalf("P5.4: Min of %#v and %#v is %#v", a, b, got)
		}
		if got := rat.Max(a, b); got != numberOf(greatest) {
			t.Fatalf("P5.4: Max of %#v and %#v is %#v", a, b, got)
		}
	})
}

// rounded returns the greatest integer that is not greater than x, if it may be a result.
func rounded(x *big.Rat) (int, api.Errno) {
	n := new(big.Int).Div(x.Num(), x.Denom())
	if new(big.Int).Abs(n).Cmp(big.NewInt(api.MaxInt)) > 0 {
		return 0, api.ErrRange
	}
	return int(n.Int64()), api.OK
}

func checkRounding(t *testing.T, a api.Rat) {
	t.Helper()
	want, wrong := rounded(bigOf(a))
	if n, e := rat.Floor(a); n != want || e != wrong {
		t.Fatalf("P5.5: Floor of %#v is %d, %#v", a, n, e)
	}
	want, wrong = rounded(new(big.Rat).Neg(bigOf(a)))
	if n, e := rat.Ceil(a); n != -want || e != wrong {
		t.Fatalf("P5.5: Ceil of %#v is %d, %#v", a, n, e)
	}
}

func TestFloorAndCeil(t *testing.T) {
	pairs(func(a, _ api.Rat) { checkRounding(t, a) })
	for _, whole := range []int64{0, 1, 4, api.MaxInt - 1, api.MaxInt, api.MaxInt + 1, api.MaxInt + 2, math.MaxInt64} {
		for _, part := range []*big.Rat{big.NewRat(0, 1), big.NewRat(1, 3), big.NewRat(-1, 3), big.NewRat(1, math.MaxInt64), big.NewRat(-1, math.MaxInt64), big.NewRat(1, 1)} {
			x := new(big.Rat).Add(big.NewRat(whole, 1), part)
			checkRounding(t, numberOf(x))
			checkRounding(t, numberOf(x.Neg(x)))
		}
	}
	for _, shift := range []uint{62, 63, 64, 65, 127, 128, 1000} {
		x := new(big.Rat).SetInt(new(big.Int).Lsh(big.NewInt(1), shift))
		checkRounding(t, numberOf(x))
		checkRounding(t, numberOf(new(big.Rat).Neg(x)))
		checkRounding(t, numberOf(new(big.Rat).Inv(x)))
		checkRounding(t, numberOf(new(big.Rat).Neg(new(big.Rat).Inv(x))))
	}
}
