package tests

import (
	"math"
	"math/big"
	"regexp"
	"strconv"
	"strings"

	"loop.example/s16388/impl"
)

var integerForm = regexp.MustCompile(`^(0|-?[1-9][0-9]*)$`)
var scaledForm = regexp.MustCompile(`^(-?[1-9][0-9]*)p(0|-?[1-9][0-9]*)$`)
var floatWords = map[string]float64{"nan": nan, "inf": inf, "-inf": -inf, "0": 0, "-0": minusZero}

func wantedFloatText(x float64) string {
	for word, value := range floatWords {
		if sameFloat(x, value) {
			return word
		}
	}
	r := rational(x)
	m, e := new(big.Int).Set(r.Num()), 1-r.Denom().BitLen()
	for m.Bit(0) == 0 {
		m.Rsh(m, 1)
		e++
	}
	return m.String() + "p" + strconv.Itoa(e)
}

func wantedText(dt int64, c impl.Cell) string {
	switch kinds[dt] {
	case 2:
		return wantedFloatText(c.F)
	case 3:
		return wantedFloatText(c.F) + "," + wantedFloatText(c.G)
	}
	return big.NewInt(c.I).String()
}

// wantedScaled halves and doubles in whole numbers: the float is a whole number times 2 to a power, and where the power is the least of all floats the whole number is halved and rounded.
func wantedScaled(m *big.Int, e int64) float64 {
	whole, power := new(big.Int).Abs(m), int64(0)
	for ; e < 0; e++ {
		if power > -1074 {
			power--
			continue
		}
		half := new(big.Int).Rsh(whole, 1)
		if whole.Bit(0) == 1 && half.Bit(0) == 1 {
			half.Add(half, big.NewInt(1))
		}
		whole = half
	}
	r := new(big.Rat).SetInt(whole)
	two := big.NewRat(2, 1)
	for ; e > 0; e-- {
		r.Mul(r, two)
	}
	scale := new(big.Int).Lsh(big.NewInt(1), uint(-power))
	return signed(rounded(r.Quo(r, new(big.Rat).SetInt(scale)), false), m.Sign() < 0)
}

func wholeOfText(text string) *big.Int {
	n, _ := new(big.Int).SetString(text, 10)
	return n
}

func within(n *big.Int, low int64, high int64) bool {
	return n.Cmp(big.NewInt(low)) >= 0 && n.Cmp(big.NewInt(high)) <= 0
}

func wantedFloatOf(text string) (float64, bool) {
	if x, is := floatWords[text]; is {
		return x, true
	}
	parts := scaledForm.FindStringSubmatch(text)
	if parts == nil {
		return 0, false
	}
	m, e := wholeOfText(parts[1]), wholeOfText(parts[2])
	if !within(m, -1<<53, 1<<53) || !within(e, -1100, 1100) {
		return 0, false
	}
	return wantedScaled(m, e.Int64()), true
}

func wantedParse(dt int64, text string) impl.CellResult {
	wrong := impl.CellResult{Code: 14}
	if dt < 1 || dt > 9 {
		return wrong
	}
	switch kinds[dt] {
	case 2:
		x, good := wantedFloatOf(text)
		if !good {
			return wrong
		}
		return impl.CellResult{Cell: wantedConvert(8, dt, floatCell(x))}
	case 3:
		parts := strings.Split(text, ",")
		if len(parts) != 2 {
			return wrong
		}
		x, good := wantedFloatOf(parts[0])
		y, alsoGood := wantedFloatOf(parts[1])
		if !good || !alsoGood {
			return wrong
		}
		return impl.CellResult{Cell: complexCell(x, y)}
	}
	if !integerForm.MatchString(text) || !within(wholeOfText(text), lowest[dt], highest[dt]) {
		return wrong
	}
	return impl.CellResult{Cell: integerCell(wholeOfText(text).Int64())}
}

// textFloats: every power of 2 that is a float, with its neighbours, and the other samples, for both signs.
func textFloats() []float64 {
	out := doubles()
	for e := -1074; e <= 1023; e++ {
		x := math.Ldexp(1, e)
		for _, y := range []float64{x, math.Nextafter(x, 0), math.Nextafter(x, inf), x * 1.5} {
			out = append(out, y, -y)
		}
	}
	return out
}

// textCells has for each dtype its samples and more: all short integers, and floats of all sizes in either part.
func textCells(dt int64) []impl.Cell {
	out := samples(dt)
	floats := textFloats()
	switch dt {
	case 2, 3, 4:
		for i := lowest[dt]; i <= highest[dt]; i++ {
			out = append(out, integerCell(i))
		}
	case 7:
		for _, x := range floats {
			out = append(out, floatCell(float64(float32(x))))
		}
	case 8:
		for _, x := range floats {
			out = append(out, floatCell(x))
		}
	case 9:
		for i, x := range floats {
			out = append(out, complexCell(x, floats[(i*7+3)%len(floats)]))
		}
	}
	return out
}
