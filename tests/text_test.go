package tests

import (
	"bytes"
	"math"
	"math/big"
	"regexp"
	"slices"
	"strconv"
	"strings"
	"testing"

	"loop.example/s16388/impl"
)

func sameCellResult(a impl.CellResult, b impl.CellResult) bool {
	return a.Code == b.Code && sameCell(a.Cell, b.Cell)
}

func checkParse(t *testing.T, dt int64, text string) impl.CellResult {
	t.Helper()
	got := impl.ParseCell(dt, []byte(text))
	if want := wantedParse(dt, text); !sameCellResult(got, want) {
		t.Errorf("dtype %d, %q: %+v, want %+v", dt, text, got, want)
	}
	return got
}

// P15
func TestNumbersOfTexts(t *testing.T) {
	got := list(impl.MaxScript, impl.MaxHandles, impl.MaxExp, impl.ErrWord, impl.ErrCount, impl.ErrNumber, impl.ErrTaken)
	if !slices.Equal(got, list(100000, 64, 1100, 18, 19, 20, 21)) {
		t.Errorf("%v", got)
	}
}

// P15: the ends of every dtype, by hand, and back again.
func TestFormatCellAtTheEnds(t *testing.T) {
	least, most := math.SmallestNonzeroFloat64, math.MaxFloat64
	cases := []struct {
		dt   int64
		c    impl.Cell
		want string
	}{
		{1, integerCell(0), "0"}, {1, integerCell(1), "1"},
		{2, integerCell(-128), "-128"}, {2, integerCell(127), "127"}, {2, integerCell(0), "0"}, {2, integerCell(-1), "-1"},
		{3, integerCell(0), "0"}, {3, integerCell(255), "255"},
		{4, integerCell(-32768), "-32768"}, {4, integerCell(32767), "32767"}, {4, integerCell(100), "100"},
		{5, integerCell(-2147483648), "-2147483648"}, {5, integerCell(2147483647), "2147483647"},
		{6, integerCell(math.MinInt64), "-9223372036854775808"}, {6, integerCell(math.MaxInt64), "9223372036854775807"}, {6, integerCell(-1000), "-1000"},
		{7, floatCell(math.SmallestNonzeroFloat32), "1p-149"}, {7, floatCell(-math.SmallestNonzeroFloat32), "-1p-149"},
		{7, floatCell(math.MaxFloat32), "16777215p104"}, {7, floatCell(-math.MaxFloat32), "-16777215p104"},
		{7, floatCell(math.Ldexp(1, -126)), "1p-126"}, {7, floatCell(math.Ldexp(8388607, -149)), "8388607p-149"},
		{7, floatCell(0), "0"}, {7, floatCell(minusZero), "-0"}, {7, floatCell(inf), "inf"}, {7, floatCell(-inf), "-inf"}, {7, floatCell(nan), "nan"},
		{8, floatCell(least), "1p-1074"}, {8, floatCell(-least), "-1p-1074"}, {8, floatCell(3 * least), "3p-1074"},
		{8, floatCell(most), "9007199254740991p971"}, {8, floatCell(-most), "-9007199254740991p971"},
		{8, floatCell(math.Ldexp(1, -1022)), "1p-1022"}, {8, floatCell(math.Ldexp(1<<52-1, -1074)), "4503599627370495p-1074"}, {8, floatCell(math.Ldexp(1, 1023)), "1p1023"},
		{8, floatCell(0), "0"}, {8, floatCell(minusZero), "-0"}, {8, floatCell(inf), "inf"}, {8, floatCell(-inf), "-inf"}, {8, floatCell(nan), "nan"}, {8, floatCell(math.Copysign(nan, -1)), "nan"},
		{8, floatCell(1), "1p0"}, {8, floatCell(-1), "-1p0"}, {8, floatCell(2), "1p1"}, {8, floatCell(0.5), "1p-1"}, {8, floatCell(12), "3p2"}, {8, floatCell(0.1), "3602879701896397p-55"},
		{8, floatCell(1<<53 - 1), "9007199254740991p0"}, {8, floatCell(1 << 53), "1p53"},
		{9, complexCell(0, 0), "0,0"}, {9, complexCell(minusZero, 0), "-0,0"}, {9, complexCell(0, minusZero), "0,-0"},
		{9, complexCell(least, -most), "1p-1074,-9007199254740991p971"}, {9, complexCell(most, least), "9007199254740991p971,1p-1074"},
		{9, complexCell(nan, inf), "nan,inf"}, {9, complexCell(-inf, nan), "-inf,nan"}, {9, complexCell(inf, -inf), "inf,-inf"}, {9, complexCell(1, -2), "1p0,-1p1"},
	}
	for _, c := range cases {
		if got := string(impl.FormatCell(c.dt, c.c)); got != c.want {
			t.Errorf("dtype %d, %v: %q, want %q", c.dt, c.c, got, c.want)
		}
		if got := checkParse(t, c.dt, c.want); got.Code != 0 || !sameCell(got.Cell, c.c) {
			t.Errorf("dtype %d, %q: %+v, want %v", c.dt, c.want, got, c.c)
		}
	}
}

var plainForm = regexp.MustCompile(`^(nan|-?inf|-?0|-?([1-9][0-9]*)?[13579]p(0|-?[1-9][0-9]*))$`)

// P15
func TestTextAndBack(t *testing.T) {
	for _, dt := range dtypes {
		for _, c := range textCells(dt) {
			text := impl.FormatCell(dt, c)
			if want := wantedText(dt, c); string(text) != want {
				t.Errorf("dtype %d, %v: %q, want %q", dt, c, text, want)
			}
			if got := impl.ParseCell(dt, text); got.Code != 0 || !sameCell(got.Cell, c) {
				t.Errorf("dtype %d, %v: %q is read as %+v", dt, c, text, got)
			}
			for _, part := range strings.Split(string(text), ",") {
				if kinds[dt] > 1 && !plainForm.MatchString(part) {
					t.Errorf("dtype %d, %v: %q is no plain form", dt, c, text)
				}
			}
		}
	}
}

// P15: what one dtype writes another reads as the oracle says.
func TestTextForAnotherDType(t *testing.T) {
	for _, dt := range dtypes {
		for _, c := range someSamples(dt, 60) {
			for _, other := range append(slices.Clone(dtypes), noDTypes...) {
				checkParse(t, other, wantedText(dt, c))
			}
		}
	}
}

// P15
func TestFormatCellOfWrongInputs(t *testing.T) {
	for _, dt := range dtypes {
		for _, c := range invalidCells(dt) {
			if got := impl.FormatCell(dt, c); len(got) != 0 {
				t.Errorf("dtype %d, %v: %q", dt, c, got)
			}
		}
	}
	for _, dt := range noDTypes {
		for _, c := range []impl.Cell{{}, {I: 1}, {F: 1}, {F: 1, G: 1}, {F: nan}} {
			if got := impl.FormatCell(dt, c); len(got) != 0 {
				t.Errorf("%d is no dtype: %v gives %q", dt, c, got)
			}
		}
	}
}

// P15
func TestParseCellOfNoCells(t *testing.T) {
	texts := []string{
		"", "-", "+", " ", "p", ",", "--1", "-+1", "+1", "+0", "-00", "00", "01", "-01", "007", "1 ", " 1", "1\n", "\n", "1_0", "0x1", "1.0", "1e3", "1.", "a", "١", "1\x00", "\xff", "1-", "1-1", "1 1",
		"1p", "p1", "-p1", "1p-", "1p+1", "+1p1", "1p01", "01p1", "1p-0", "-0p1", "0p0", "0p1", "1p1p1", "1pp1", "1p1.", "1P1", "1p 1", "1 p1", " 1p1", "1p1 ", "--1p1", "1p--1",
		"NaN", "Nan", "-nan", "+nan", "nan1", "nanp1", "Inf", "INF", "+inf", "--inf", "infinity", "in", "infp0", "-", "inf ", " nan",
		"1p1101", "1p-1101", "-1p1101", "1p99999999999999999999", "1p-99999999999999999999", "1p9223372036854775808", "1p18446744073709551617", "1p4294967296",
		"9007199254740993p0", "-9007199254740993p0", "9007199254740994p0", "18014398509481984p0", "9223372036854775808p0", "18446744073709551617p0", "99999999999999999999p-5", "1" + strings.Repeat("0", 400) + "p-1000",
		"1p0,1p0,1p0", "0,0,0", "0,", ",0", ",", ",,", "0,,0", "1p0,", ",1p0", "1p0;1p0", "1p0 1p0", "1p0, 1p0", "1p0 ,1p0", "0,01", "1,1", "0,1", "nan,", "0,+0", "(0,0)",
		"9223372036854775808", "-9223372036854775809", "18446744073709551616", "18446744073709551617", "99999999999999999999", "-99999999999999999999", "1" + strings.Repeat("0", 500), "-1" + strings.Repeat("9", 500),
	}
	for _, text := range texts {
		for _, dt := range append(slices.Clone(dtypes), noDTypes...) {
			if got := checkParse(t, dt, text); got != (impl.CellResult{Code: 14}) {
				t.Errorf("dtype %d, %q: %+v", dt, text, got)
			}
		}
	}
	for _, dt := range noDTypes {
		for _, text := range []string{"0", "1", "1p0", "0,0", "nan"} {
			if got := impl.ParseCell(dt, []byte(text)); got != (impl.CellResult{Code: 14}) {
				t.Errorf("%d is no dtype: %q gives %+v", dt, text, got)
			}
		}
	}
}

// P15: texts that are good for some dtypes and for no others.
func TestParseCellByKind(t *testing.T) {
	cases := []struct {
		text string
		good []int64
	}{
		{"0", list(1, 2, 3, 4, 5, 6, 7, 8)}, {"1", list(1, 2, 3, 4, 5, 6)}, {"-1", list(2, 4, 5, 6)}, {"2", list(2, 3, 4, 5, 6)}, {"-0", list(7, 8)}, {"10", list(2, 3, 4, 5, 6)},
		{"1p0", list(7, 8)}, {"nan", list(7, 8)}, {"inf", list(7, 8)}, {"-inf", list(7, 8)}, {"0,0", list(9)}, {"-0,-0", list(9)}, {"nan,-inf", list(9)}, {"2p1,-4p-3", list(9)},
	}
	for _, c := range cases {
		for _, dt := range dtypes {
			if got := checkParse(t, dt, c.text); (got.Code == 0) != slices.Contains(c.good, dt) {
				t.Errorf("dtype %d, %q: %+v", dt, c.text, got)
			}
		}
	}
}

// P15
func TestParseCellBesideTheRange(t *testing.T) {
	for _, dt := range list(1, 2, 3, 4, 5, 6) {
		for _, end := range list(lowest[dt], highest[dt]) {
			for beside := int64(-3); beside <= 3; beside++ {
				n := new(big.Int).Add(big.NewInt(end), big.NewInt(beside))
				got := checkParse(t, dt, n.String())
				inside := n.Cmp(big.NewInt(lowest[dt])) >= 0 && n.Cmp(big.NewInt(highest[dt])) <= 0
				if inside != (got.Code == 0) || inside && got.Cell != integerCell(n.Int64()) {
					t.Errorf("dtype %d, %v: %+v", dt, n, got)
				}
			}
		}
	}
}

// P15
func TestParseCellStepByStep(t *testing.T) {
	least := math.SmallestNonzeroFloat64
	cases := []struct {
		text   string
		double float64
		single float64
	}{
		{"2p0", 2, 2}, {"4p-2", 1, 1}, {"-12p-2", -3, -3}, {"10p1", 20, 20}, {"1p1", 2, 2}, {"1p-1", 0.5, 0.5},
		{"9007199254740992p0", 1 << 53, 1 << 53}, {"-9007199254740992p0", -1 << 53, -1 << 53}, {"9007199254740991p0", 1<<53 - 1, 1 << 53}, {"9007199254740990p-1", 1<<52 - 1, 1 << 52},
		{"9007199254740992p970", math.Ldexp(1, 1023), inf}, {"9007199254740992p971", inf, inf}, {"9007199254740991p971", math.MaxFloat64, inf}, {"-9007199254740992p971", -inf, -inf},
		{"1p1023", math.Ldexp(1, 1023), inf}, {"1p1024", inf, inf}, {"1p1100", inf, inf}, {"-1p1100", -inf, -inf}, {"9007199254740992p1100", inf, inf},
		{"1p-1074", least, 0}, {"1p-1075", 0, 0}, {"-1p-1075", minusZero, minusZero}, {"1p-1100", 0, 0}, {"-1p-1100", minusZero, minusZero}, {"3p-1075", 2 * least, 0}, {"5p-1075", 2 * least, 0}, {"7p-1075", 4 * least, 0},
		{"9007199254740992p-1100", math.Ldexp(1, -1047), 0}, {"9007199254740992p-1074", math.Ldexp(1, -1021), 0}, {"9007199254740991p-1074", math.Ldexp(1<<53-1, -1074), 0},
		{"9007199254740991p-1075", math.Ldexp(1, -1022), 0}, {"6755399441055743p-1075", math.Ldexp(3377699720527872, -1074), 0},
		// Rounded once, 5/8 and 11/8 of the least float would both be this float; step by step they go to 2, 1, 0 and to 6, 3, 2 of it.
		{"5p-1077", 0, 0}, {"11p-1077", 2 * least, 0}, {"-5p-1077", minusZero, minusZero}, {"-11p-1077", -2 * least, minusZero},
		{"16777217p0", 16777217, 16777216}, {"16777219p0", 16777219, 16777220}, {"1p127", math.Ldexp(1, 127), math.Ldexp(1, 127)}, {"1p128", math.Ldexp(1, 128), inf}, {"-1p128", math.Ldexp(-1, 128), -inf},
		{"33554431p103", math.Ldexp(33554431, 103), inf}, {"67108861p102", math.Ldexp(67108861, 102), math.MaxFloat32},
		{"1p-149", math.Ldexp(1, -149), math.Ldexp(1, -149)}, {"1p-150", math.Ldexp(1, -150), 0}, {"-1p-150", math.Ldexp(-1, -150), minusZero}, {"3p-150", math.Ldexp(3, -150), math.Ldexp(1, -148)},
		{"4503599627370497p-202", math.Ldexp(1<<52+1, -202), math.Ldexp(1, -149)},
	}
	for _, c := range cases {
		if got := checkParse(t, 8, c.text); got.Code != 0 || !sameCell(got.Cell, floatCell(c.double)) {
			t.Errorf("%q: %+v, want %v", c.text, got, c.double)
		}
		if got := checkParse(t, 7, c.text); got.Code != 0 || !sameCell(got.Cell, floatCell(c.single)) {
			t.Errorf("%q as a single: %+v, want %v", c.text, got, c.single)
		}
		if got := checkParse(t, 9, "-inf,"+c.text); got.Code != 0 || !sameCell(got.Cell, complexCell(-inf, c.double)) {
			t.Errorf("%q as an imaginary part: %+v", c.text, got)
		}
		if got := checkParse(t, 9, c.text+",-0"); got.Code != 0 || !sameCell(got.Cell, complexCell(c.double, minusZero)) {
			t.Errorf("%q as a real part: %+v", c.text, got)
		}
	}
}

// P15
func TestParseCellOfManyScales(t *testing.T) {
	d := draws(61)
	codes := map[int64]int{}
	for range 6000 {
		m := d.oneOf(list(d.between(-40, 40), 1<<53-d.below(5), -1<<53+d.below(5), 1<<53+d.below(3), d.below(1<<30)<<23+d.below(1<<23), 1<<d.below(60)))
		e := d.oneOf(list(d.between(-1105, 1105), d.between(-1135, -1070), d.between(960, 1030), d.between(-1103, -1098), d.between(1098, 1103), d.between(-210, -120), d.between(60, 130)))
		text := strconv.FormatInt(m, 10) + "p" + strconv.FormatInt(e, 10)
		codes[checkParse(t, 8, text).Code]++
		checkParse(t, 7, text)
		checkParse(t, 9, text+",0")
	}
	if codes[0] < 3000 || codes[14] < 300 || len(codes) != 2 {
		t.Errorf("%v", codes)
	}
}

// P15: all texts of at most four bytes over the bytes that cells are made of.
func TestParseCellOfAllShortTexts(t *testing.T) {
	texts := []string{""}
	good := 0
	for len(texts[0]) < 5 {
		var longer []string
		for _, text := range texts {
			for _, dt := range list(1, 2, 6, 8, 9) {
				good += int(1 - min(1, checkParse(t, dt, text).Code))
			}
			for _, b := range "0129-+p,naif " {
				longer = append(longer, text+string(b))
			}
		}
		texts = longer
	}
	if good < 400 {
		t.Errorf("only %d texts were cells", good)
	}
}

// P15: no argument is written to, and each answer is memory of its own.
func TestTextsAreNewMemory(t *testing.T) {
	for _, dt := range dtypes {
		for _, c := range someSamples(dt, 20) {
			first := impl.FormatCell(dt, c)
			second := impl.FormatCell(dt, c)
			whole := first[:cap(first)]
			for i := range whole {
				whole[i] = '?'
			}
			if string(second) != wantedText(dt, c) || string(impl.FormatCell(dt, c)) != wantedText(dt, c) {
				t.Errorf("dtype %d, %v: two answers share memory", dt, c)
			}
			room := []byte(wantedText(dt, c) + "marks")
			given := bytes.Clone(room)
			impl.ParseCell(dt, room[:len(room)-5])
			if !bytes.Equal(room, given) {
				t.Errorf("dtype %d: the text %q is now %q", dt, given, room)
			}
		}
	}
}
