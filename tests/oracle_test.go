package tests

import (
	"math"
	"math/big"

	"loop.example/s16388/impl"
)

// The oracle works out in whole and rational numbers of any length what the document asks, and rounds once at the end.

func rational(x float64) *big.Rat {
	return new(big.Rat).SetFloat64(x)
}

func rounded(r *big.Rat, single bool) float64 {
	if single {
		f, _ := r.Float32()
		return float64(f)
	}
	f, _ := r.Float64()
	return f
}

func signed(x float64, negative bool) float64 {
	if negative {
		return -x
	}
	return x
}

// wrapped: the number modulo 2 to the bits of the dtype, in its range.
func wrapped(dt int64, n *big.Int) int64 {
	size := new(big.Int).Lsh(big.NewInt(1), uint(widths[dt]))
	m := new(big.Int).Mod(n, size)
	if m.Cmp(big.NewInt(highest[dt])) > 0 {
		m.Sub(m, size)
	}
	return m.Int64()
}

func ieeeSum(a float64, b float64, single bool) float64 {
	switch {
	case math.IsInf(a, 0) && math.IsInf(b, 0) && a != b:
		return nan
	case math.IsInf(a, 0):
		return a
	case math.IsInf(b, 0):
		return b
	}
	r := new(big.Rat).Add(rational(a), rational(b))
	if r.Sign() == 0 {
		return signed(0, math.Signbit(a) && math.Signbit(b))
	}
	return rounded(r, single)
}

func ieeeProduct(a float64, b float64, single bool) float64 {
	negative := math.Signbit(a) != math.Signbit(b)
	infinite := math.IsInf(a, 0) || math.IsInf(b, 0)
	zero := a == 0 || b == 0
	switch {
	case infinite && zero:
		return nan
	case infinite:
		return signed(inf, negative)
	case zero:
		return signed(0, negative)
	}
	return rounded(new(big.Rat).Mul(rational(a), rational(b)), single)
}

func ieeeQuotient(a float64, b float64, single bool) float64 {
	negative := math.Signbit(a) != math.Signbit(b)
	switch {
	case a == 0 && b == 0 || math.IsInf(a, 0) && math.IsInf(b, 0):
		return nan
	case math.IsInf(a, 0) || b == 0:
		return signed(inf, negative)
	case math.IsInf(b, 0) || a == 0:
		return signed(0, negative)
	}
	return rounded(new(big.Rat).Quo(rational(a), rational(b)), single)
}

func ieee(op int64, a float64, b float64, single bool) float64 {
	if a != a || b != b {
		return nan
	}
	switch op {
	case 1:
		return ieeeSum(a, b, single)
	case 2:
		return ieeeSum(a, -b, single)
	case 3:
		return ieeeProduct(a, b, single)
	}
	return ieeeQuotient(a, b, single)
}

// rank: floats in the order of section 1.5, as pairs that Go compares by value.
func rank(x float64) (float64, int) {
	switch {
	case x != x:
		return inf, 1
	case x == 0 && math.Signbit(x):
		return 0, -1
	}
	return x, 0
}

func rankedBefore(a float64, b float64) bool {
	x, i := rank(a)
	y, j := rank(b)
	return x < y || x == y && i < j
}

func truth(t bool) impl.Cell {
	if t {
		return integerCell(1)
	}
	return integerCell(0)
}

func wantedConvert(from int64, to int64, c impl.Cell) impl.Cell {
	if from == to {
		return c
	}
	if kinds[from] < 2 {
		return wantedFromInteger(to, c.I)
	}
	if to == 1 {
		return truth(c.F != 0 || c.G != 0)
	}
	switch to {
	case 7:
		if c.F == 0 || c.F != c.F || math.IsInf(c.F, 0) {
			return floatCell(c.F)
		}
		return floatCell(rounded(rational(c.F), true))
	case 8, 9:
		return floatCell(c.F)
	}
	return integerCell(wantedTruncated(to, c.F))
}

func wantedFromInteger(to int64, i int64) impl.Cell {
	switch to {
	case 1:
		return truth(i != 0)
	case 7:
		return floatCell(rounded(new(big.Rat).SetInt64(i), true))
	case 8, 9:
		return floatCell(rounded(new(big.Rat).SetInt64(i), false))
	}
	return integerCell(wrapped(to, big.NewInt(i)))
}

func wantedTruncated(to int64, x float64) int64 {
	switch {
	case x != x:
		return 0
	case math.IsInf(x, 1):
		return highest[to]
	case math.IsInf(x, -1):
		return lowest[to]
	}
	n, _ := big.NewFloat(x).Int(nil)
	if n.Cmp(big.NewInt(lowest[to])) < 0 {
		return lowest[to]
	}
	if n.Cmp(big.NewInt(highest[to])) > 0 {
		return highest[to]
	}
	return n.Int64()
}

func wantedInteger(op int64, dt int64, a int64, b int64) impl.Cell {
	x, y, z := big.NewInt(a), big.NewInt(b), new(big.Int)
	switch op {
	case 1:
		z.Add(x, y)
	case 2:
		z.Sub(x, y)
	case 3:
		z.Mul(x, y)
	case 4:
		if b != 0 {
			z.Quo(x, y)
		}
	case 5, 6:
		z.Set(x)
		if x.Cmp(y) > 0 == (op == 5) {
			z.Set(y)
		}
	case 7:
		return truth(x.Cmp(y) < 0)
	case 8:
		return truth(x.Cmp(y) == 0)
	case 9:
		if b >= 0 && b < widths[dt] {
			z.Lsh(x, uint(b))
		}
	case 10:
		z.SetInt64(wantedShiftRight(dt, a, b))
	}
	return integerCell(wrapped(dt, z))
}

func wantedShiftRight(dt int64, a int64, b int64) int64 {
	if b >= 0 && b < widths[dt] {
		return new(big.Int).Rsh(big.NewInt(a), uint(b)).Int64()
	}
	if a < 0 {
		return -1
	}
	return 0
}

func wantedFloat(op int64, a float64, b float64, single bool) impl.Cell {
	switch op {
	case 5, 6:
		switch {
		case a != a || b != b:
			return floatCell(nan)
		case rankedBefore(b, a) == (op == 5):
			return floatCell(b)
		}
		return floatCell(a)
	case 7:
		return truth(a < b)
	case 8:
		return truth(a == b)
	}
	return floatCell(ieee(op, a, b, single))
}

func wantedComplex(op int64, a impl.Cell, b impl.Cell) impl.Cell {
	switch op {
	case 3:
		re := ieee(2, ieee(3, a.F, b.F, false), ieee(3, a.G, b.G, false), false)
		im := ieee(1, ieee(3, a.F, b.G, false), ieee(3, a.G, b.F, false), false)
		return complexCell(re, im)
	case 8:
		return truth(a.F == b.F && a.G == b.G)
	}
	return complexCell(ieee(op, a.F, b.F, false), ieee(op, a.G, b.G, false))
}

var boolTable = map[int64][4]int64{ // for (0,0), (0,1), (1,0), (1,1)
	1: {0, 1, 1, 1}, 2: {0, 1, 1, 0}, 3: {0, 0, 0, 1}, 5: {0, 0, 0, 1}, 6: {0, 1, 1, 1}, 7: {0, 1, 0, 0}, 8: {1, 0, 0, 1},
}

func wantedCell(op int64, dt int64, a impl.Cell, b impl.Cell) impl.Cell {
	switch kinds[dt] {
	case 0:
		return integerCell(boolTable[op][2*a.I+b.I])
	case 1:
		return wantedInteger(op, dt, a.I, b.I)
	case 2:
		return wantedFloat(op, a.F, b.F, dt == 7)
	}
	return wantedComplex(op, a, b)
}

func wantedUnary(op int64, dt int64, a impl.Cell) impl.Cell {
	if op == 4 {
		if dt == 9 {
			return complexCell(a.F, math.Copysign(a.G, -math.Copysign(1, a.G)))
		}
		return a
	}
	switch kinds[dt] {
	case 0:
		return integerCell(1 - a.I)
	case 1:
		n := big.NewInt(a.I)
		if op == 2 {
			return integerCell(wrapped(dt, n.Not(n)))
		}
		if op == 1 || a.I < 0 {
			n.Neg(n)
		}
		return integerCell(wrapped(dt, n))
	}
	if op == 3 {
		return floatCell(math.Copysign(a.F, 1))
	}
	flipped := impl.Cell{F: math.Copysign(a.F, -math.Copysign(1, a.F))}
	if dt == 9 {
		flipped.G = math.Copysign(a.G, -math.Copysign(1, a.G))
	}
	return flipped
}
