package field_test

import (
	"math"
	"math/big"
	"strconv"
	"strings"
	"testing"

	"tarnfell/api"
	"tarnfell/field"
)

func power(n int) *big.Rat {
	p := new(big.Rat).SetInt(new(big.Int).Exp(big.NewInt(10), big.NewInt(int64(max(n, -n))), nil))
	if n < 0 {
		p.Inv(p)
	}
	return p
}

// shortest looks for the digits and the power of ten of the first one by trying all numbers of digits, by exact numbers.
func shortest(v float32) (digits string, exponent int) {
	x := new(big.Rat).SetFloat64(math.Abs(float64(v)))
	exponent = int(math.Floor(math.Log10(math.Abs(float64(v)))))
	for x.Cmp(power(exponent)) < 0 {
		exponent--
	}
	for x.Cmp(power(exponent+1)) >= 0 {
		exponent++
	}
	for many := 1; ; many++ {
		unit := power(exponent - many + 1)
		scaled := new(big.Rat).Quo(x, unit)
		low := new(big.Int).Quo(scaled.Num(), scaled.Denom())
		var best *big.Int
		var least *big.Rat
		for _, d := range []*big.Int{low, new(big.Int).Add(low, big.NewInt(1))} {
			y := new(big.Rat).Mul(new(big.Rat).SetInt(d), unit)
			if back, _ := y.Float32(); back != float32(math.Abs(float64(v))) {
				continue
			}
			y.Sub(y, x).Abs(y)
			if best == nil || y.Cmp(least) < 0 || y.Cmp(least) == 0 && d.Bit(0) == 0 {
				best, least = d, y
			}
		}
		if best != nil {
			digits = best.String()
			exponent += len(digits) - many
			return strings.TrimRight(digits, "0"), exponent
		}
	}
}

// written writes digits in the form of strconv.FormatFloat with 'g' and -1.
func written(digits string, exponent int) string {
	if exponent < -4 || exponent >= 6 {
		text := digits[:1]
		if len(digits) > 1 {
			text += "." + digits[1:]
		}
		sign := "+"
		if exponent < 0 {
			sign, exponent = "-", -exponent
		}
		if exponent < 10 {
			sign += "0"
		}
		return text + "e" + sign + strconv.Itoa(exponent)
	}
	if exponent < 0 {
		return "0." + strings.Repeat("0", -exponent-1) + digits
	}
	if len(digits) <= exponent+1 {
		return digits + strings.Repeat("0", exponent+1-len(digits))
	}
	return digits[:exponent+1] + "." + digits[exponent+1:]
}

func checkNumber(t *testing.T, v float32) {
	t.Helper()
	want := "0"
	if v != 0 {
		want = written(shortest(v))
	}
	if math.Signbit(float64(v)) {
		want = "-" + want
	}
	text, e := field.Number(v)
	if e != api.OK || text != want {
		t.Errorf("Number(%08x): got %q, error %d; want %q", math.Float32bits(v), text, e, want)
	}
	back, e := field.ParseNumber(text)
	wantSingle(t, "ParseNumber of "+text, back, e, v)
}

// P9: Number writes the fewest digits that are read back, the nearest ones of these.
func TestNumber(t *testing.T) {
	n := &numbers{state: 14}
	for range 20000 {
		checkNumber(t, n.height())
		checkNumber(t, n.single()*1000)
	}
	for i := -149; i <= 20; i++ {
		v := float32(math.Ldexp(1, i))
		checkNumber(t, v)
		checkNumber(t, -v)
		checkNumber(t, math.Nextafter32(v, 0))
		if v < top {
			checkNumber(t, math.Nextafter32(v, inf))
		}
	}
	for i := range 2000 {
		checkNumber(t, float32(i))
		checkNumber(t, math.Float32frombits(uint32(i)))
		// Of two numbers that are equally near the one with the even last digit.
		checkNumber(t, 131072+float32(i)/8)
		checkNumber(t, -262144-float32(i)/8)
	}
}

// P9: forms of numbers.
func TestNumberForms(t *testing.T) {
	for _, s := range []struct {
		v    float32
		want string
	}{
		{0, "0"}, {minusZero, "-0"}, {1, "1"}, {-1.5, "-1.5"}, {0.1, "0.1"}, {-0.0001, "-0.0001"}, {0.00001, "1e-05"},
		{123456, "123456"}, {999999.94, "999999.94"}, {1000000, "1e+06"}, {top, "1.048576e+06"}, {-top, "-1.048576e+06"},
		{100000, "100000"}, {tiny, "1e-45"}, {1.0 / 3, "0.33333334"}, {16777216.0 / 100, "167772.16"},
		{262144.125, "262144.12"}, {262144.375, "262144.38"}, {131072.625, "131072.62"},
	} {
		if text, e := field.Number(s.v); text != s.want || e != api.OK {
			t.Errorf("Number(%v): got %q, error %d; want %q", s.v, text, e, s.want)
		}
	}
	for _, s := range []struct {
		v    float32
		want api.Errno
	}{{nan, api.ErrForm}, {inf, api.ErrForm}, {-inf, api.ErrForm}, {beyond, api.ErrRange}, {-beyond, api.ErrRange}, {math.MaxFloat32, api.ErrRange}} {
		if text, e := field.Number(s.v); text != "" || e != s.want {
			t.Errorf("Number(%v): got %q, error %d; want error %d", s.v, text, e, s.want)
		}
	}
}

// P9, G6: ParseNumber returns the single that is nearest, rounded once.
func TestParseNumber(t *testing.T) {
	for _, s := range []struct {
		text string
		want float32
	}{
		{"0", 0}, {"-0", minusZero}, {"-0.0e5", minusZero}, {"0e999", 0}, {"000", 0}, {"007.50e-0", 7.5}, {"-12", -12},
		{"1e2", 100}, {"1e+2", 100}, {"1e-2", 0.01}, {"1e002", 100}, {"1.5e-02", 0.015}, {"1e6", 1e6}, {"1048576", top}, {"-1048576.0", -top},
		{"1048576.0625", top}, {"-1048576.05", -top}, {"10485760e-1", top}, {"0.0000001e12", 1e5},
		{"00000000000000000000000000000000000000000000000001.5", 1.5}, {"1" + strings.Repeat("0", 60) + "e-60", 1},
		{"1e-45", tiny}, {"0.7e-45", 0}, {"0.71e-45", tiny}, {"1e-999", 0}, {"1e-46", 0}, {"2.2e-45", 2 * tiny},
		// Halfway between 1 and the next single, and a little more: by way of a double this is rounded twice.
		{"1.000000059604644775390625", 1}, {"1.000000059604644775390625000000000001", 1.0000001},
		{"1.000000178813934326171875", 1.0000002}, {"1.000000178813934326171874999999999999", 1.0000001},
		{"0.1", 0.1}, {"0.30000001192092896", 0.3}, {"1677721.7e-1", 167772.17},
	} {
		v, e := field.ParseNumber(s.text)
		wantSingle(t, "ParseNumber of "+s.text, v, e, s.want)
	}
}

// P9, G6: ParseNumber of many texts against exact numbers.
func TestParseNumberIsNearest(t *testing.T) {
	n := &numbers{state: 15}
	digits := func(most int) string {
		var b strings.Builder
		for range 1 + n.below(most) {
			b.WriteByte(byte('0' + n.below(10)))
		}
		return b.String()
	}
	for range 20000 {
		text := digits(12)
		if n.below(2) == 0 {
			text += "." + digits(30)
		}
		if n.below(2) == 0 {
			text += "e" + []string{"", "+", "-"}[n.below(3)] + strconv.Itoa(n.below(60))
		}
		x, ok := new(big.Rat).SetString(text)
		if !ok {
			t.Fatal(text)
		}
		want, _ := x.Float32()
		checkNearest(t, text, want)
		checkNearest(t, "-"+text, -want)
	}
}

func checkNearest(t *testing.T, text string, want float32) {
	t.Helper()
	v, e := field.ParseNumber(text)
	if want < -top || want > top {
		wantNoSingle(t, "ParseNumber of "+text, v, e, api.ErrRange)
	} else if e != api.OK || v != want {
		t.Errorf("ParseNumber of %s: got %v, error %d; want %v", text, v, e, want)
	}
}

// P9: what is no number, and what is no height.
func TestParseNumberErrors(t *testing.T) {
	for _, text := range []string{
		"", "-", "+1", "--1", "1-", " 1", "1 ", "1\n", ".5", "-.5", "5.", "-5.", "1.e5", ".", "1..2", "1.2.3", "1,5",
		"e5", "1e", "1e+", "1e-", "1e+-5", "1e1234", "1e0001", "1E5", "1e5.0", "1e5e5", "1ee5", "1e 5", "0x10", "1_000", "1p4", "0b1",
		"inf", "Inf", "-inf", "nan", "NaN", "infinity", "1f", "١", "1\x00", "\xff", "１", "1048577x", "1e999x", "- 1",
		strings.Repeat("1", 101), strings.Repeat("0", 101), "0." + strings.Repeat("0", 99),
	} {
		v, e := field.ParseNumber(text)
		wantNoSingle(t, "ParseNumber of "+strconv.Quote(text), v, e, api.ErrSyntax)
	}
	for _, text := range []string{
		"1048577", "-1048577", "1048576.125", "1048576.07", "1e7", "1e38", "1e39", "-1e39", "1e999", "-1e999", "9e37", "340282356779733661637539395458142568448",
		strings.Repeat("9", 100), "1" + strings.Repeat("0", 95) + "e999",
	} {
		v, e := field.ParseNumber(text)
		wantNoSingle(t, "ParseNumber of "+text, v, e, api.ErrRange)
	}
	v, e := field.ParseNumber(strings.Repeat("0", 100))
	wantSingle(t, "ParseNumber of 100 zeros", v, e, 0)
	v, e = field.ParseNumber(strings.Repeat("0", 93) + "12.5e+1")
	wantSingle(t, "ParseNumber of 100 bytes", v, e, 125)
}

// P10, P265: what is printed is read back, to the bit.
func TestPrintAndParse(t *testing.T) {
	for _, s := range []struct {
		f    api.Field
		want string
	}{
		{row(1), "field 0 0 1 1\n1\n"},
		{of(-1, 2, 2, 2, 1, 0.5, -3, minusZero), "field -1 2 2 2\n1 0.5\n-3 -0\n"},
		{of(7, -8, 1, 3, 1e6, tiny, 0.1), "field 7 -8 1 3\n1e+06\n1e-45\n0.1\n"},
		{of(-api.MaxPlace, api.MaxPlace-1, 3, 1, top, -top, 0), "field -4194304 4194303 3 1\n1.048576e+06 -1.048576e+06 0\n"},
	} {
		text, e := field.Print(s.f)
		if text != s.want || e != api.OK {
			t.Errorf("Print: got %q, error %d; want %q", text, e, s.want)
		}
		f, line, e := field.Parse(s.want)
		wantField(t, "Parse", f, e, s.f)
		if line != 0 {
			t.Error("Parse: line", line)
		}
	}
	n := &numbers{state: 16}
	for _, r := range []api.Region{region(-100, 50, 31, 17), region(0, 0, 512, 128), region(0, 0, 128, 512)} {
		f := n.field(r, n.height)
		text, e := field.Print(f)
		if e != api.OK || len(text) > api.MaxText || strings.Count(text, "\n") != r.H+1 {
			t.Fatal("Print", e, len(text))
		}
		g, line, e := field.Parse(text)
		wantField(t, "Parse", g, e, f)
		if line != 0 {
			t.Error("Parse: line", line)
		}
	}
}

// P10: Parse takes all forms of numbers.
func TestParseForms(t *testing.T) {
	f, line, e := field.Parse("field 0 -5 2 3\n007.50 1e-0\n-0.0 12e+03\n0.5e001 1048576.01\n")
	wantField(t, "Parse", f, e, of(0, -5, 2, 3, 7.5, 1, minusZero, 12000, 5, top))
	if line != 0 {
		t.Error("Parse: line", line)
	}
}

func checkParse(t *testing.T, text string, line int, want api.Errno) {
	t.Helper()
	f, n, e := field.Parse(text)
	wantNoField(t, "Parse of "+strconv.Quote(text), f, e, want)
	if n != line {
		t.Errorf("Parse of %q: line %d, want %d", text, n, line)
	}
}

// P10: what is wrong with the first line.
func TestParseFirstLine(t *testing.T) {
	for _, head := range []string{
		"", " ", "field", "fields 0 0 1 1", "Field 0 0 1 1", " field 0 0 1 1", "field  0 0 1 1", "field 0 0 1 1 ", "field\t0 0 1 1",
		"field 0 0 1", "field 0 0 1 1 1", "field 0 0 1 ", "field -0 0 1 1", "field 0 00 1 1", "field 0 0 01 1", "field +0 0 1 1", "field 0 0 +1 1",
		"field 0 0 1.0 1", "field 0 0 1e0 1", "field a 0 1 1", "field 0 0 1 0x1", "field 0 0 1 1_0", "field -01 0 1 1", "field - 0 1 1",
		"field 9223372036854775808 0 1 1", "field 0 -9223372036854775809 1 1", "field 0 0 99999999999999999999 1", "field 0 0 1 1\r", "\xef\xbb\xbffield 0 0 1 1",
	} {
		checkParse(t, head+"\n1\n", 0, api.ErrSyntax)
		checkParse(t, head+"\n", 0, api.ErrSyntax)
	}
	for _, text := range []string{"", "field 0 0 1 1", "field 0 0 0 1", "x", "\n", "\n\n\n"} {
		checkParse(t, text, 0, api.ErrSyntax)
	}
	for _, s := range []struct {
		head string
		want api.Errno
	}{
		{"field 0 0 0 1", api.ErrRange}, {"field 0 0 1 513", api.ErrRange}, {"field 0 0 -1 1", api.ErrRange},
		{"field 0 0 512 129", api.ErrLarge}, {"field 4194304 0 1 1", api.ErrPlace}, {"field 0 -4194305 1 1", api.ErrPlace},
		{"field 9223372036854775807 -9223372036854775808 1 1", api.ErrPlace}, {"field 0 0 9223372036854775807 9223372036854775807", api.ErrRange},
	} {
		checkParse(t, s.head+"\n", 0, s.want)
		checkParse(t, s.head+"\nx\n", 0, s.want)
	}
}

// P10: what is wrong with rows; in a row ErrSyntax comes first, but the first bad row decides.
func TestParseRows(t *testing.T) {
	for _, s := range []struct {
		rows string
		line int
		want api.Errno
	}{
		{"1 2\n3 4\n", 3, api.ErrSyntax},
		{"1 2\n", 2, api.ErrSyntax},
		{"", 1, api.ErrSyntax},
		{"1 2", 1, api.ErrSyntax},
		{"1 2\n3 4\n5 6", 3, api.ErrSyntax},
		{"1 2\n3 4\n5 6\n\n", 4, api.ErrSyntax},
		{"1 2\n3 4\n5 6\n7 8\n", 4, api.ErrSyntax},
		{"1 2\n3 4\n5 6\n7", 4, api.ErrSyntax},
		{"1 2\n3 4\n5 6\n ", 4, api.ErrSyntax},
		{"1 2\n3 4\n5 6\n7 8\n9 9e9\n", 4, api.ErrSyntax},
		{"1\n3 4\n5 6\n", 1, api.ErrSyntax},
		{"1 2 3\n3 4\n5 6\n", 1, api.ErrSyntax},
		{"\n3 4\n5 6\n", 1, api.ErrSyntax},
		{"1 2\n\n3 4\n5 6\n", 2, api.ErrSyntax},
		{"1 2\n3  4\n5 6\n", 2, api.ErrSyntax},
		{"1 2\n 3 4\n5 6\n", 2, api.ErrSyntax},
		{"1 2\n3 4 \n5 6\n", 2, api.ErrSyntax},
		{"1 2\n3\t4\n5 6\n", 2, api.ErrSyntax},
		{"1 2\r\n3 4\r\n5 6\r\n", 1, api.ErrSyntax},
		{"1 2\n3 x\n5 6\n", 2, api.ErrSyntax},
		{"1 2\n3 4\n5 +6\n", 3, api.ErrSyntax},
		{"1 2\n3 4\n5 NaN\n", 3, api.ErrSyntax},
		{"1 2\n3 " + strings.Repeat("0", 101) + "\n5 6\n", 2, api.ErrSyntax},
		{"1 1e7\n3 4\n5 6\n", 1, api.ErrRange},
		{"1 2\n3 4\n-1e999 6\n", 3, api.ErrRange},
		{"1e7 x\n3 4\n5 6\n", 1, api.ErrSyntax},
		{"x 1e7\n3 4\n5 6\n", 1, api.ErrSyntax},
		{"1e7 1e7 1e7\n3 4\n5 6\n", 1, api.ErrSyntax},
		{"1e7\n3 4\n5 6\n", 1, api.ErrSyntax},
		{"1 2\n3 4\n5 1e7", 3, api.ErrSyntax},
		{"1e7 1\nx\n", 1, api.ErrRange},
		{"1 2\n3 1e7\n5 x\n", 2, api.ErrRange},
		{"1 2\n3 4\n5 1e7\n7 8\n", 3, api.ErrRange},
		{"1 2\n3 x\n5 1e7\n", 2, api.ErrSyntax},
	} {
		checkParse(t, "field 0 0 2 3\n"+s.rows, s.line, s.want)
	}
}

// P10: a text that is too large is not looked at.
func TestParseLargeTexts(t *testing.T) {
	checkParse(t, strings.Repeat("x", api.MaxText+1), 0, api.ErrLarge)
	checkParse(t, strings.Repeat("x", api.MaxText), 0, api.ErrSyntax)
	head := "field 0 0 1 1\n1\n"
	checkParse(t, head+strings.Repeat("x", api.MaxText-len(head)), 2, api.ErrSyntax)
	checkParse(t, head+strings.Repeat("x", api.MaxText-len(head)+1), 0, api.ErrLarge)
	checkParse(t, "field 0 0 1 1\n"+strings.Repeat(" ", 1<<21)+"\n", 1, api.ErrSyntax)
	checkParse(t, "field"+strings.Repeat(" ", 1<<21)+"\n", 0, api.ErrSyntax)
}
