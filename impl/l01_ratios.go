package impl

import (
	"cmp"
	"strconv"
	"strings"
)

// The error codes, which all chapters share.
const (
	ErrNone = iota
	ErrInvalid
	ErrRange
	ErrLimit
	ErrNotFound
	ErrState
	ErrSyntax
)

// MaxPart bounds both parts of a ratio. It is small enough for the sum of two products of parts
// to fit into an int64, so no operation on valid ratios overflows before its result is reduced.
const MaxPart = 1000000000

// Ratio is described in chapter 1.
type Ratio struct {
	Num int64
	Den int64
}

// IsRatio reports whether a is valid.
func IsRatio(a Ratio) bool {
	if !isNumerator(a.Num) || !isDenominator(a.Den) {
		return false
	}
	return commonDivisor(magnitude(a.Num), a.Den) == 1
}

// GreatestDivisor returns the greatest integer that divides both numbers, and ErrNone; for 0 and
// 0 it is 0. It returns 0 and ErrRange if a or b is not in 0..MaxPart.
func GreatestDivisor(a int64, b int64) (int64, int64) {
	if minimum(a, b) < 0 || maximum(a, b) > MaxPart {
		return 0, ErrRange
	}
	return commonDivisor(a, b), ErrNone
}

// MakeRatio returns the ratio of num and den, and ErrNone. It returns the zero value and ErrRange
// if num is not in -MaxPart..MaxPart, or den not in 1..MaxPart. (ErrLimit is not returned.)
func MakeRatio(num int64, den int64) (Ratio, int64) {
	if !isNumerator(num) || !isDenominator(den) {
		return Ratio{}, ErrRange
	}
	return ratioOf(num, den)
}

// AddRatios returns the sum of a and b, and ErrNone.
func AddRatios(a Ratio, b Ratio) (Ratio, int64) {
	if !IsRatio(a) || !IsRatio(b) {
		return Ratio{}, ErrInvalid
	}
	return ratioOf(a.Num*b.Den+b.Num*a.Den, a.Den*b.Den)
}

// SubtractRatios returns a minus b, and ErrNone.
func SubtractRatios(a Ratio, b Ratio) (Ratio, int64) {
	if !IsRatio(a) || !IsRatio(b) {
		return Ratio{}, ErrInvalid
	}
	return ratioOf(a.Num*b.Den-b.Num*a.Den, a.Den*b.Den)
}

// MultiplyRatios returns the product of a and b, and ErrNone.
func MultiplyRatios(a Ratio, b Ratio) (Ratio, int64) {
	if !IsRatio(a) || !IsRatio(b) {
		return Ratio{}, ErrInvalid
	}
	return ratioOf(a.Num*b.Num, a.Den*b.Den)
}

// DivideRatios returns a divided by b, and ErrNone. Errors: ErrState, before ErrLimit, if b is 0.
func DivideRatios(a Ratio, b Ratio) (Ratio, int64) {
	if !IsRatio(a) || !IsRatio(b) {
		return Ratio{}, ErrInvalid
	}
	if b.Num == 0 {
		return Ratio{}, ErrState
	}
	num, den := a.Num*b.Den, a.Den*b.Num
	if den < 0 {
		num, den = -num, -den
	}
	return ratioOf(num, den)
}

// CompareRatios returns -1 if a is less than b, 0 if both are equal, 1 if a is greater, and
// ErrNone.
func CompareRatios(a Ratio, b Ratio) (int64, int64) {
	if !IsRatio(a) || !IsRatio(b) {
		return 0, ErrInvalid
	}
	return sign(a.Num*b.Den - b.Num*a.Den), ErrNone
}

// RatioText returns the text of a ratio, or "" if a is not valid.
func RatioText(a Ratio) string {
	if !IsRatio(a) {
		return ""
	}
	text := strconv.FormatInt(a.Num, 10)
	if a.Den == 1 {
		return text
	}
	return text + "/" + strconv.FormatInt(a.Den, 10)
}

// ReadRatio returns the valid ratio with the text s, and true, or the zero value and false if
// there is none.
func ReadRatio(s string) (Ratio, bool) {
	first, second, hasSlash := strings.Cut(s, "/")
	num, err := strconv.ParseInt(first, 10, 64)
	if err != nil {
		return Ratio{}, false
	}
	den := int64(1)
	if hasSlash {
		den, err = strconv.ParseInt(second, 10, 64)
		if err != nil {
			return Ratio{}, false
		}
	}
	a := Ratio{Num: num, Den: den}
	// ParseInt accepts more than the texts of numbers (plus signs, leading zeros, -0), and a
	// denominator of 1 is not written, so only the way back tells whether s is the text of a.
	if !IsRatio(a) || RatioText(a) != s {
		return Ratio{}, false
	}
	return a, true
}

// ratioOf returns the ratio of num and den, and ErrNone, or ErrLimit if there is none. It takes
// what the operations form from valid ratios: den is at least 1, and num not the least int64.
func ratioOf(num int64, den int64) (Ratio, int64) {
	divisor := commonDivisor(magnitude(num), den)
	a := Ratio{Num: num / divisor, Den: den / divisor}
	if !isNumerator(a.Num) || !isDenominator(a.Den) {
		return Ratio{}, ErrLimit
	}
	return a, ErrNone
}

// commonDivisor returns the greatest common divisor of two numbers of at least 0.
func commonDivisor(a int64, b int64) int64 {
	for b != 0 {
		a, b = b, a%b
	}
	return a
}

func isNumerator(n int64) bool {
	return n >= -MaxPart && n <= MaxPart
}

func isDenominator(n int64) bool {
	return n >= 1 && n <= MaxPart
}

func magnitude(n int64) int64 {
	return maximum(n, -n)
}

func sign(n int64) int64 {
	return maximum(-1, minimum(n, 1))
}

func minimum[T cmp.Ordered](a T, b T) T {
	if b < a {
		return b
	}
	return a
}

func maximum[T cmp.Ordered](a T, b T) T {
	if a < b {
		return b
	}
	return a
}
