package tests

import (
	"maps"
	"math"
	"slices"
	"testing"

	"loop.example/s16388/impl"
)

// The tables of the document, written out here so that the program's own constants and functions are held against them.
var dtypes = []int64{1, 2, 3, 4, 5, 6, 7, 8, 9}
var noDTypes = []int64{math.MinInt64, -9, -1, 0, 10, 11, 256, math.MaxInt64}

var lowest = map[int64]int64{1: 0, 2: -128, 3: 0, 4: -32768, 5: -2147483648, 6: math.MinInt64}
var highest = map[int64]int64{1: 1, 2: 127, 3: 255, 4: 32767, 5: 2147483647, 6: math.MaxInt64}
var widths = map[int64]int64{2: 8, 3: 8, 4: 16, 5: 32, 6: 64}
var kinds = map[int64]int64{1: 0, 2: 1, 3: 1, 4: 1, 5: 1, 6: 1, 7: 2, 8: 2, 9: 3}

var nan = math.NaN()
var inf = math.Inf(1)
var minusZero = math.Copysign(0, -1)

func integerCell(i int64) impl.Cell {
	return impl.Cell{I: i}
}

func floatCell(x float64) impl.Cell {
	return impl.Cell{F: x}
}

func complexCell(x float64, y float64) impl.Cell {
	return impl.Cell{F: x, G: y}
}

func sameFloat(x float64, y float64) bool {
	return x != x && y != y || x == y && math.Signbit(x) == math.Signbit(y)
}

func sameCell(a impl.Cell, b impl.Cell) bool {
	return a.I == b.I && sameFloat(a.F, b.F) && sameFloat(a.G, b.G)
}

func sameApplied(a impl.Applied, b impl.Applied) bool {
	return a.Code == b.Code && a.DType == b.DType && sameCell(a.Cell, b.Cell)
}

// integerSamples: small numbers, the neighbours of powers of 2 and the ends of the dtype.
func integerSamples(dt int64) []impl.Cell {
	values := map[int64]bool{lowest[dt]: true, highest[dt]: true}
	for p := range 63 {
		for d := int64(-1); d <= 1; d++ {
			values[int64(1)<<p+d] = true
			values[-int64(1)<<p+d] = true
		}
	}
	for _, i := range []int64{5, 11, 100, 200, 16777219, 1<<53 + 3, 1<<60 + 1<<36 + 1, 1<<60 + 1<<36, 3037000500} {
		values[i] = true
		values[-i] = true
	}
	values[math.MinInt64+1] = true
	values[math.MaxInt64-1] = true
	var out []impl.Cell
	for _, i := range slices.Sorted(maps.Keys(values)) {
		if i >= lowest[dt] && i <= highest[dt] {
			out = append(out, integerCell(i))
		}
	}
	return out
}

func doubles() []float64 {
	scaled := math.Ldexp
	up := []float64{
		0, inf, 0.1, 0.2, 1.0 / 3, 0.5, 1, 1.5, 2.5, 3, 7, 1e39, 1e300, math.MaxFloat64, math.SmallestNonzeroFloat64,
		math.MaxFloat32, math.SmallestNonzeroFloat32, scaled(1, -150), scaled(1, -150) + scaled(1, -200), scaled(3, -150), scaled(1, -151),
		scaled(1<<24-1, 104) + scaled(1, 103), math.Nextafter(scaled(1<<24-1, 104)+scaled(1, 103), 0), scaled(1, 128),
		1 + scaled(1, -24), 1 + scaled(1, -24) + scaled(1, -52), 1 + scaled(3, -24), 1 + scaled(1, -30), scaled(1, -1022), scaled(1, -126), scaled(1, -127),
		126.9, 127, 127.5, 128, 128.9, 129, 254.5, 255, 255.99, 256, 32767, 32767.5, 32768, 32768.5, 32769,
		2147483647, 2147483647.5, 2147483648, 2147483648.5, 2147483649, 16777216, 16777217,
		scaled(1, 53), scaled(1, 62), scaled(1, 63), scaled(1, 63) - 1024, scaled(1, 63) + 2048, scaled(1, 64), 1e10,
		float64(float32(0.1)), float64(float32(0.2)), float64(float32(1.0 / 3)),
	}
	out := []float64{nan}
	for _, x := range up {
		out = append(out, x, -x)
	}
	return append(out, minusZero)
}

func floatSamples(dt int64) []impl.Cell {
	var out []impl.Cell
	for _, x := range doubles() {
		if dt == 8 || x != x || float64(float32(x)) == x {
			out = append(out, floatCell(x))
		}
	}
	return out
}

func complexSamples() []impl.Cell {
	parts := []float64{nan, inf, -inf, 0, minusZero, 1, -1, 2.5, -300, 1 + math.Ldexp(1, -30), 1e300, 0.1, math.Ldexp(1, 63)}
	var out []impl.Cell
	for _, x := range parts {
		for _, y := range parts {
			out = append(out, complexCell(x, y))
		}
	}
	return out
}

func samples(dt int64) []impl.Cell {
	switch kinds[dt] {
	case 2:
		return floatSamples(dt)
	case 3:
		return complexSamples()
	}
	return integerSamples(dt)
}

// invalidCells: cells that are near to those of the dtype and not of it.
func invalidCells(dt int64) []impl.Cell {
	spoilt := []impl.Cell{{I: 1, F: 1}, {I: 1, G: 1}, {I: 1, F: nan, G: nan}}
	if kinds[dt] < 2 {
		spoilt = append(spoilt, impl.Cell{F: 1}, impl.Cell{G: 1}, impl.Cell{F: minusZero}, impl.Cell{G: minusZero}, impl.Cell{F: nan}, impl.Cell{G: nan},
			impl.Cell{I: 1, F: minusZero}, impl.Cell{I: 1, G: minusZero})
		if dt != 6 {
			spoilt = append(spoilt, integerCell(lowest[dt]-1), integerCell(highest[dt]+1), integerCell(math.MinInt64), integerCell(math.MaxInt64))
		}
	} else {
		spoilt = append(spoilt, integerCell(1), integerCell(-1), integerCell(math.MinInt64))
	}
	if kinds[dt] == 2 {
		spoilt = append(spoilt, complexCell(1, 1), complexCell(1, minusZero), complexCell(1, nan), complexCell(0, inf), complexCell(nan, minusZero))
	}
	if dt == 7 {
		spoilt = append(spoilt, floatCell(0.1), floatCell(16777217), floatCell(1e39), floatCell(-1e300), floatCell(math.Ldexp(1, -150)), floatCell(1+math.Ldexp(1, -30)))
	}
	return spoilt
}

func TestNumbersOfTheDocument(t *testing.T) {
	got := []int64{
		impl.Bool, impl.I8, impl.U8, impl.I16, impl.I32, impl.I64, impl.F32, impl.F64, impl.C128,
		impl.CastSafe, impl.CastKind, impl.CastAny,
		impl.OpAdd, impl.OpSub, impl.OpMul, impl.OpDiv, impl.OpMin, impl.OpMax, impl.OpLess, impl.OpEqual, impl.OpShl, impl.OpShr,
		impl.UnNeg, impl.UnNot, impl.UnAbs, impl.UnConj,
		impl.ErrOp, impl.ErrDType, impl.ErrCell,
	}
	want := []int64{1, 2, 3, 4, 5, 6, 7, 8, 9, 0, 1, 2, 1, 2, 3, 4, 5, 6, 7, 8, 9, 10, 1, 2, 3, 4, 3, 4, 14}
	for i := range want {
		if got[i] != want[i] {
			t.Errorf("constant %d is %d, want %d", i, got[i], want[i])
		}
	}
}

func TestValidCell(t *testing.T) {
	for _, dt := range dtypes {
		for _, c := range samples(dt) {
			if !impl.ValidCell(dt, c) {
				t.Errorf("dtype %d: %v is valid", dt, c)
			}
		}
		for _, c := range invalidCells(dt) {
			if impl.ValidCell(dt, c) {
				t.Errorf("dtype %d: %v is not valid", dt, c)
			}
		}
	}
	for _, dt := range noDTypes {
		for _, c := range []impl.Cell{{}, {I: 1}, {F: 1}, {F: 1, G: 1}} {
			if impl.ValidCell(dt, c) {
				t.Errorf("%d is no dtype: %v", dt, c)
			}
		}
	}
}

func TestValidCellOfEveryShortInteger(t *testing.T) {
	for _, dt := range []int64{1, 2, 3, 4} {
		for i := int64(-70000); i <= 70000; i++ {
			if g := impl.ValidCell(dt, integerCell(i)); g != (i >= lowest[dt] && i <= highest[dt]) {
				t.Fatalf("dtype %d, %d: %v", dt, i, g)
			}
		}
	}
}
