package tests

import (
	"math"
	"math/big"
	"regexp"
	"strings"
	"testing"

	"loop.example/g00910/impl"
)

const most = impl.MaxPart

// outcome is what an operation on ratios returns.
type outcome struct {
	value impl.Ratio
	code  int64
}

func result(value impl.Ratio, code int64) outcome { return outcome{value, code} }

func success(num, den int64) outcome {
	return outcome{impl.Ratio{Num: num, Den: den}, impl.ErrNone}
}

func failure(code int64) outcome { return outcome{code: code} }

func ratio(num, den int64) impl.Ratio { return impl.Ratio{Num: num, Den: den} }

// bigIsRatio decides by the definition, with integers of any size.
func bigIsRatio(num, den *big.Int) bool {
	limit := big.NewInt(most)
	if num.CmpAbs(limit) > 0 || den.Sign() <= 0 || den.Cmp(limit) > 0 {
		return false
	}
	return new(big.Int).GCD(nil, nil, new(big.Int).Abs(num), den).Cmp(big.NewInt(1)) == 0
}

// expect is the outcome that the document requires for an exact result.
func expect(exact *big.Rat) outcome {
	if !bigIsRatio(exact.Num(), exact.Denom()) {
		return failure(impl.ErrLimit)
	}
	return success(exact.Num().Int64(), exact.Denom().Int64())
}

// partSamples are numbers near the limits, primes just below them, and small ones.
var partSamples = []int64{0, 1, 2, 3, 4, 5, 6, 7, 12, 31, 31622, 31623, 32768, 65537, 20000, 50000,
	333333333, 499999999, 500000000, 500000001, 999999937, 999999998, 999999999, most}

// validSamples are all valid ratios whose parts are samples or negatives of them.
func validSamples() []impl.Ratio {
	var list []impl.Ratio
	for _, num := range partSamples {
		for _, den := range partSamples {
			if !bigIsRatio(big.NewInt(num), big.NewInt(den)) {
				continue
			}
			list = append(list, ratio(num, den))
			if num != 0 {
				list = append(list, ratio(-num, den))
			}
		}
	}
	return list
}

// smallRatios are all valid ratios with parts of at most n.
func smallRatios(n int64) []impl.Ratio {
	var list []impl.Ratio
	for num := -n; num <= n; num++ {
		for den := int64(1); den <= n; den++ {
			if bigIsRatio(big.NewInt(num), big.NewInt(den)) {
				list = append(list, ratio(num, den))
			}
		}
	}
	return list
}

// invalidRatios have one or both parts out of range, or a common divisor.
func invalidRatios() []impl.Ratio {
	return []impl.Ratio{
		{}, ratio(1, 0), ratio(-1, 0), ratio(0, 2), ratio(0, -1), ratio(0, most), ratio(2, 4),
		ratio(-2, 4), ratio(3, 3), ratio(-6, 9), ratio(most, most), ratio(most, 2), ratio(2, most),
		ratio(1, -1), ratio(1, -2), ratio(-1, -2), ratio(most+1, 1), ratio(-most-1, 1),
		ratio(1, most+1), ratio(-1, most+1), ratio(1, -most), ratio(0, most+1),
		ratio(math.MaxInt64, 1), ratio(math.MinInt64, 1), ratio(1, math.MaxInt64), ratio(1, math.MinInt64),
		ratio(math.MinInt64, math.MinInt64), ratio(math.MaxInt64, math.MaxInt64), ratio(math.MinInt64, -1),
		ratio(math.MinInt64, 0), ratio(0, math.MinInt64), ratio(1<<32+1, 1), ratio(1, 1<<32+1),
	}
}

func TestErrorCodes(t *testing.T) {
	codes := []int64{impl.ErrNone, impl.ErrInvalid, impl.ErrRange, impl.ErrLimit, impl.ErrNotFound, impl.ErrState, impl.ErrSyntax}
	for i, code := range codes {
		if code != int64(i) {
			t.Errorf("error code %d is %d", i, code)
		}
	}
	if impl.MaxPart != 1000000000 {
		t.Error("MaxPart is", int64(impl.MaxPart))
	}
}

func TestIsRatio(t *testing.T) {
	valid := []impl.Ratio{ratio(0, 1), ratio(1, 1), ratio(-1, 1), ratio(3, 2), ratio(-3, 2), ratio(most, 1), ratio(-most, 1),
		ratio(1, most), ratio(-1, most), ratio(most, most-1), ratio(-most, most-1), ratio(most-1, most)}
	for _, a := range valid {
		if !impl.IsRatio(a) {
			t.Error(a, "is a ratio")
		}
	}
	for _, a := range invalidRatios() {
		if impl.IsRatio(a) {
			t.Error(a, "is no ratio")
		}
	}
	for num := int64(-30); num <= 30; num++ {
		for den := int64(-30); den <= 30; den++ {
			if impl.IsRatio(ratio(num, den)) != bigIsRatio(big.NewInt(num), big.NewInt(den)) {
				t.Error("IsRatio of", num, den)
			}
		}
	}
}

func TestGreatestDivisor(t *testing.T) {
	numbers := append([]int64{720720, 1024, 999999000, 510510}, partSamples...)
	for _, a := range numbers {
		for _, b := range numbers {
			want := new(big.Int).GCD(nil, nil, big.NewInt(a), big.NewInt(b)).Int64()
			if got, code := impl.GreatestDivisor(a, b); got != want || code != impl.ErrNone {
				t.Error("GreatestDivisor of", a, b, "is", got, code)
			}
		}
	}
	if got, code := impl.GreatestDivisor(0, 0); got != 0 || code != impl.ErrNone {
		t.Error("GreatestDivisor of 0 and 0 is", got, code)
	}
	for _, wrong := range []int64{-1, -2, -most, most + 1, math.MaxInt64, math.MinInt64, 1<<32 + 2} {
		for _, other := range []int64{0, 1, 2, most, wrong} {
			for _, pair := range [][2]int64{{wrong, other}, {other, wrong}} {
				if got, code := impl.GreatestDivisor(pair[0], pair[1]); got != 0 || code != impl.ErrRange {
					t.Error("GreatestDivisor of", pair, "is", got, code)
				}
			}
		}
	}
}

func TestMakeRatio(t *testing.T) {
	for _, num := range partSamples {
		for _, den := range partSamples {
			if den == 0 {
				continue
			}
			for _, signed := range []int64{num, -num} {
				if got, want := result(impl.MakeRatio(signed, den)), expect(big.NewRat(signed, den)); got != want {
					t.Error("MakeRatio of", signed, den, "is", got)
				}
			}
		}
	}
	for _, c := range []struct {
		num, den int64
		want     outcome
	}{
		{6, 4, success(3, 2)}, {-6, 4, success(-3, 2)}, {0, 7, success(0, 1)}, {0, most, success(0, 1)},
		{most, most, success(1, 1)}, {-most, most, success(-1, 1)}, {most, 1, success(most, 1)}, {-1, most, success(-1, most)},
		{most + 1, 1, failure(impl.ErrRange)}, {most + 1, most, failure(impl.ErrRange)}, {-most - 1, 1, failure(impl.ErrRange)},
		{2*most + 2, 2, failure(impl.ErrRange)}, {2, 2*most + 2, failure(impl.ErrRange)},
		{1, most + 1, failure(impl.ErrRange)}, {0, most + 1, failure(impl.ErrRange)}, {2, most + 2, failure(impl.ErrRange)},
		{1, 0, failure(impl.ErrRange)}, {0, 0, failure(impl.ErrRange)}, {1, -1, failure(impl.ErrRange)}, {-1, -1, failure(impl.ErrRange)},
		{math.MaxInt64, 1, failure(impl.ErrRange)}, {math.MinInt64, 1, failure(impl.ErrRange)},
		{1, math.MaxInt64, failure(impl.ErrRange)}, {1, math.MinInt64, failure(impl.ErrRange)}, {math.MinInt64, math.MinInt64, failure(impl.ErrRange)},
	} {
		if got := result(impl.MakeRatio(c.num, c.den)); got != c.want {
			t.Error("MakeRatio of", c.num, c.den, "is", got, "and should be", c.want)
		}
	}
}

func checkOperations(t *testing.T, list []impl.Ratio) {
	t.Helper()
	exact := make([]*big.Rat, len(list))
	for i, a := range list {
		exact[i] = big.NewRat(a.Num, a.Den)
	}
	for i, a := range list {
		for j, b := range list {
			x, y := exact[i], exact[j]
			if got, want := result(impl.AddRatios(a, b)), expect(new(big.Rat).Add(x, y)); got != want {
				t.Fatal(a, "+", b, "is", got, "and should be", want)
			}
			if got, want := result(impl.SubtractRatios(a, b)), expect(new(big.Rat).Sub(x, y)); got != want {
				t.Fatal(a, "-", b, "is", got, "and should be", want)
			}
			if got, want := result(impl.MultiplyRatios(a, b)), expect(new(big.Rat).Mul(x, y)); got != want {
				t.Fatal(a, "*", b, "is", got, "and should be", want)
			}
			quotient := failure(impl.ErrState)
			if y.Sign() != 0 {
				quotient = expect(new(big.Rat).Quo(x, y))
			}
			if got := result(impl.DivideRatios(a, b)); got != quotient {
				t.Fatal(a, "/", b, "is", got, "and should be", quotient)
			}
			if got, code := impl.CompareRatios(a, b); got != int64(x.Cmp(y)) || code != impl.ErrNone {
				t.Fatal(a, "compared with", b, "is", got, code)
			}
		}
	}
}

func TestOperationsOnSamples(t *testing.T) { checkOperations(t, validSamples()) }

func TestOperationsOnSmallRatios(t *testing.T) { checkOperations(t, smallRatios(9)) }

func TestOperationsAtLimits(t *testing.T) {
	for _, c := range []struct {
		name string
		got  outcome
		want outcome
	}{
		{"a sum of MaxPart", result(impl.AddRatios(ratio(most-1, 1), ratio(1, 1))), success(most, 1)},
		{"a sum of MaxPart + 1", result(impl.AddRatios(ratio(most, 1), ratio(1, 1))), failure(impl.ErrLimit)},
		{"a sum of -MaxPart", result(impl.AddRatios(ratio(1-most, 1), ratio(-1, 1))), success(-most, 1)},
		{"a sum of -MaxPart - 1", result(impl.AddRatios(ratio(-most, 1), ratio(-1, 1))), failure(impl.ErrLimit)},
		{"the greatest sum", result(impl.AddRatios(ratio(most, 1), ratio(most, 1))), failure(impl.ErrLimit)},
		{"a sum that fits after reducing", result(impl.AddRatios(ratio(1, most), ratio(1, most))), success(1, most/2)},
		{"a sum with too great a denominator", result(impl.AddRatios(ratio(1, most), ratio(1, most-1))), failure(impl.ErrLimit)},
		{"opposites", result(impl.AddRatios(ratio(-7, most), ratio(7, most))), success(0, 1)},
		{"a difference of MaxPart", result(impl.SubtractRatios(ratio(most-1, 1), ratio(-1, 1))), success(most, 1)},
		{"a difference of MaxPart + 1", result(impl.SubtractRatios(ratio(most, 1), ratio(-1, 1))), failure(impl.ErrLimit)},
		{"a difference of -MaxPart", result(impl.SubtractRatios(ratio(1-most, 1), ratio(1, 1))), success(-most, 1)},
		{"a difference of -MaxPart - 1", result(impl.SubtractRatios(ratio(-most, 1), ratio(1, 1))), failure(impl.ErrLimit)},
		{"equals subtracted", result(impl.SubtractRatios(ratio(most-1, most), ratio(most-1, most))), success(0, 1)},
		{"a difference that fits after reducing", result(impl.SubtractRatios(ratio(most-1, most), ratio(-1, most))), success(1, 1)},
		{"a product of MaxPart", result(impl.MultiplyRatios(ratio(20000, 1), ratio(50000, 1))), success(most, 1)},
		{"a product above MaxPart", result(impl.MultiplyRatios(ratio(20000, 1), ratio(50001, 1))), failure(impl.ErrLimit)},
		{"a product with the denominator MaxPart", result(impl.MultiplyRatios(ratio(-1, 20000), ratio(1, 50000))), success(-1, most)},
		{"a product with too great a denominator", result(impl.MultiplyRatios(ratio(1, 20000), ratio(1, 50001))), failure(impl.ErrLimit)},
		{"a product that fits after reducing", result(impl.MultiplyRatios(ratio(-most, 999999999), ratio(999999999, most))), success(-1, 1)},
		{"the square of -MaxPart", result(impl.MultiplyRatios(ratio(-most, 1), ratio(-most, 1))), failure(impl.ErrLimit)},
		{"a product with 0", result(impl.MultiplyRatios(ratio(0, 1), ratio(-7, most))), success(0, 1)},
		{"a quotient by a negative", result(impl.DivideRatios(ratio(1, 2), ratio(-1, 3))), success(-3, 2)},
		{"a quotient of negatives", result(impl.DivideRatios(ratio(-1, 2), ratio(-1, 3))), success(3, 2)},
		{"a quotient that fits after reducing", result(impl.DivideRatios(ratio(-most, 999999999), ratio(most, 999999999))), success(-1, 1)},
		{"a quotient of MaxPart", result(impl.DivideRatios(ratio(1, 1), ratio(1, most))), success(most, 1)},
		{"a quotient of -MaxPart", result(impl.DivideRatios(ratio(1, 1), ratio(-1, most))), success(-most, 1)},
		{"a quotient above MaxPart", result(impl.DivideRatios(ratio(2, 1), ratio(1, most))), failure(impl.ErrLimit)},
		{"a quotient with too great a denominator", result(impl.DivideRatios(ratio(1, most), ratio(-2, 1))), failure(impl.ErrLimit)},
		{"0 divided", result(impl.DivideRatios(ratio(0, 1), ratio(-7, most))), success(0, 1)},
		{"0 divided by 0", result(impl.DivideRatios(ratio(0, 1), ratio(0, 1))), failure(impl.ErrState)},
		{"MaxPart divided by 0", result(impl.DivideRatios(ratio(most, 1), ratio(0, 1))), failure(impl.ErrState)},
	} {
		if c.got != c.want {
			t.Error(c.name, "is", c.got, "and should be", c.want)
		}
	}
}

// The other argument also causes ErrState or ErrLimit, which ErrInvalid precedes.
func TestInvalidRatiosComeFirst(t *testing.T) {
	others := []impl.Ratio{ratio(0, 1), ratio(1, 2), ratio(most, 1), ratio(-1, most), {}}
	for _, wrong := range invalidRatios() {
		for _, other := range others {
			for _, pair := range [][2]impl.Ratio{{wrong, other}, {other, wrong}, {wrong, wrong}} {
				a, b := pair[0], pair[1]
				for name, got := range map[string]outcome{
					"AddRatios": result(impl.AddRatios(a, b)), "SubtractRatios": result(impl.SubtractRatios(a, b)),
					"MultiplyRatios": result(impl.MultiplyRatios(a, b)), "DivideRatios": result(impl.DivideRatios(a, b)),
				} {
					if got != failure(impl.ErrInvalid) {
						t.Error(name, a, b, got)
					}
				}
				if got, code := impl.CompareRatios(a, b); got != 0 || code != impl.ErrInvalid {
					t.Error("CompareRatios", a, b, got, code)
				}
			}
		}
	}
}

func TestRatioText(t *testing.T) {
	for _, c := range []struct {
		a    impl.Ratio
		want string
	}{
		{ratio(0, 1), "0"}, {ratio(4, 1), "4"}, {ratio(-4, 1), "-4"}, {ratio(1, 2), "1/2"}, {ratio(-1, 2), "-1/2"},
		{ratio(10, 7), "10/7"}, {ratio(most, 1), "1000000000"}, {ratio(-most, 999999999), "-1000000000/999999999"},
		{ratio(-1, most), "-1/1000000000"},
	} {
		if got := impl.RatioText(c.a); got != c.want {
			t.Error("RatioText of", c.a, "is", got)
		}
	}
	for _, a := range invalidRatios() {
		if got := impl.RatioText(a); got != "" {
			t.Error("RatioText of", a, "is", got)
		}
	}
}

func TestRatiosAreRecovered(t *testing.T) {
	for _, a := range append(validSamples(), smallRatios(40)...) {
		text := big.NewRat(a.Num, a.Den).RatString()
		if got := impl.RatioText(a); got != text {
			t.Error("RatioText of", a, "is", got)
		}
		if got, ok := impl.ReadRatio(text); got != a || !ok {
			t.Error("ReadRatio of", text, "is", got, ok)
		}
	}
}

func TestReadRatioRejects(t *testing.T) {
	for _, s := range []string{
		"", "-", "+", "/", "-/", "1/", "/2", "-/2", "1//2", "1/2/", "/1/2", "1/2/3", "--1", "-+1", "1-", "1/2-",
		"+1", "+1/2", "1/+2", "1/-2", "-1/-2", "-0", "+0", "-0/1", "00", "01", "-01", "01/2", "1/02", "-1/02", "0x1", "1_000", "1/1_0",
		"0/1", "0/2", "0/0", "1/0", "-1/0", "1/00", "1/1", "-1/1", "5/1", "2/4", "-2/4", "3/3", "1000000000/1000000000", "6/1000000000",
		"1000000001", "-1000000001", "1/1000000001", "-1/1000000001", "1000000001/2", "9223372036854775807", "-9223372036854775808",
		"9223372036854775808", "1/9223372036854775808", "18446744073709551617", "1/18446744073709551617", "-18446744073709551615",
		" 1", "1 ", "1 /2", "1/ 2", "- 1", "1\n", "\n1", "1/2\n", "1\x00", "1\x002", "1.0", "1.5", "1e3", ".5", "1,5", "1:2", "1÷2", "½",
		"１", "−1", "1⁄2", "a", "1a", "1/a", "\xff", "NaN", "Inf", strings.Repeat("1", 1000), strings.Repeat("0", 1000) + "1",
		"1/" + strings.Repeat("9", 1000), strings.Repeat("/", 1000), strings.Repeat("-", 1000) + "1",
	} {
		if got, ok := impl.ReadRatio(s); ok || got != (impl.Ratio{}) {
			t.Errorf("ReadRatio of %q is %v %v", s, got, ok)
		}
	}
}

// A text is recognised here by its form, without reading numbers the way the program does.
func TestReadRatioOfAllShortStrings(t *testing.T) {
	form := regexp.MustCompile(`^(0|-?[1-9][0-9]*)$|^(-?[1-9][0-9]*)/([1-9][0-9]*)$`)
	var check func(prefix string, more int)
	check = func(prefix string, more int) {
		want := impl.Ratio{}
		exact, readable := new(big.Rat).SetString(prefix)
		isText := form.MatchString(prefix) && readable && exact.RatString() == prefix
		if isText {
			want = ratio(exact.Num().Int64(), exact.Denom().Int64())
		}
		if got, ok := impl.ReadRatio(prefix); got != want || ok != isText {
			t.Fatalf("ReadRatio of %q is %v %v and should be %v %v", prefix, got, ok, want, isText)
		}
		if more == 0 {
			return
		}
		for _, c := range "-+/_ 0123" {
			check(prefix+string(c), more-1)
		}
	}
	check("", 5)
}
