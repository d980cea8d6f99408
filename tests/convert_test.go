package tests

import (
	"math"
	"testing"

	"loop.example/s16388/impl"
)

// P1
func TestConvertAllPairs(t *testing.T) {
	for _, from := range dtypes {
		for _, c := range samples(from) {
			for _, to := range dtypes {
				g := impl.Convert(from, to, c)
				if !impl.ValidCell(to, g) {
					t.Errorf("%d to %d, %v: %v is not valid", from, to, c, g)
				}
				if w := wantedConvert(from, to, c); !sameCell(g, w) {
					t.Errorf("%d to %d, %v: %v, want %v", from, to, c, g, w)
				}
				if from == to && !sameCell(g, c) {
					t.Errorf("%d to itself, %v: %v", from, c, g)
				}
			}
		}
	}
}

// P1
func TestConvertEdges(t *testing.T) {
	i, f, z := integerCell, floatCell, complexCell
	tie := math.Ldexp(1<<24-1, 104) + math.Ldexp(1, 103)
	cases := []struct {
		from int64
		to   int64
		c    impl.Cell
		want impl.Cell
	}{
		{8, 2, f(nan), i(0)}, {8, 3, f(nan), i(0)}, {7, 6, f(nan), i(0)}, {9, 5, z(nan, 1), i(0)},
		{8, 2, f(inf), i(127)}, {8, 2, f(-inf), i(-128)}, {8, 3, f(inf), i(255)}, {8, 3, f(-inf), i(0)},
		{7, 6, f(inf), i(math.MaxInt64)}, {7, 6, f(-inf), i(math.MinInt64)},
		{8, 2, f(127.9), i(127)}, {8, 2, f(128), i(127)}, {8, 2, f(-128.9), i(-128)}, {8, 2, f(-129), i(-128)},
		{8, 3, f(-0.9), i(0)}, {8, 3, f(255.9), i(255)}, {8, 3, f(256), i(255)}, {8, 3, f(minusZero), i(0)},
		{8, 4, f(32768), i(32767)}, {8, 4, f(-32769), i(-32768)},
		{8, 5, f(2147483647.5), i(2147483647)}, {8, 5, f(2147483648), i(2147483647)}, {8, 5, f(-2147483649), i(-2147483648)},
		{8, 6, f(math.Ldexp(1, 63)), i(math.MaxInt64)}, {8, 6, f(math.Ldexp(1, 63) - 1024), i(math.MaxInt64 - 1023)},
		{8, 6, f(-math.Ldexp(1, 63)), i(math.MinInt64)}, {8, 6, f(-math.Ldexp(1, 63) - 2048), i(math.MinInt64)}, {8, 6, f(1e300), i(math.MaxInt64)},
		{9, 6, z(-1e300, nan), i(math.MinInt64)}, {9, 4, z(-2.5, inf), i(-2)},
		{8, 1, f(minusZero), i(0)}, {8, 1, f(0), i(0)}, {8, 1, f(nan), i(1)}, {8, 1, f(math.SmallestNonzeroFloat64), i(1)},
		{9, 1, z(0, minusZero), i(0)}, {9, 1, z(minusZero, nan), i(1)}, {9, 1, z(minusZero, 0.5), i(1)}, {9, 1, z(0.5, 0), i(1)},
		{6, 1, i(math.MinInt64), i(1)}, {6, 1, i(256), i(1)}, {3, 1, i(0), i(0)},
		{6, 3, i(-1), i(255)}, {6, 3, i(256), i(0)}, {6, 2, i(128), i(-128)}, {6, 4, i(32768), i(-32768)}, {6, 5, i(math.MinInt64), i(0)}, {3, 2, i(255), i(-1)}, {2, 3, i(-128), i(128)},
		{6, 8, i(1<<53 + 1), f(1 << 53)}, {6, 8, i(1<<53 + 3), f(1<<53 + 4)}, {6, 9, i(math.MaxInt64), z(math.Ldexp(1, 63), 0)},
		{6, 7, i(1<<60 + 1<<36 + 1), f(1<<60 + 1<<37)}, {6, 7, i(-(1<<60 + 1<<36 + 1)), f(-(1<<60 + 1<<37))}, {6, 7, i(1<<60 + 1<<36), f(1 << 60)},
		{8, 7, f(tie), f(inf)}, {8, 7, f(math.Nextafter(tie, 0)), f(math.MaxFloat32)}, {8, 7, f(-tie), f(-inf)},
		{8, 7, f(math.Ldexp(1, -150)), f(0)}, {8, 7, f(-math.Ldexp(1, -150)), f(minusZero)}, {8, 7, f(math.Ldexp(3, -151)), f(math.SmallestNonzeroFloat32)},
		{8, 7, f(math.Ldexp(3, -150)), f(math.Ldexp(1, -148))}, {8, 7, f(minusZero), f(minusZero)}, {8, 7, f(nan), f(nan)},
		{8, 9, f(minusZero), z(minusZero, 0)}, {7, 9, f(nan), z(nan, 0)}, {9, 8, z(minusZero, 3), f(minusZero)}, {9, 7, z(0.1, minusZero), f(float64(float32(0.1)))},
		{9, 9, z(minusZero, minusZero), z(minusZero, minusZero)}, {9, 9, z(nan, -inf), z(nan, -inf)},
		{1, 2, i(1), i(1)}, {1, 7, i(1), f(1)}, {1, 9, i(0), z(0, 0)},
	}
	for _, c := range cases {
		if g := impl.Convert(c.from, c.to, c.c); !sameCell(g, c.want) {
			t.Errorf("%d to %d, %v: %v, want %v", c.from, c.to, c.c, g, c.want)
		}
	}
}

// P1: every value of the short integer dtypes.
func TestConvertShortIntegers(t *testing.T) {
	for _, from := range []int64{1, 2, 3, 4} {
		for i := lowest[from]; i <= highest[from]; i++ {
			for _, to := range []int64{1, 2, 3, 4} {
				c := integerCell(i)
				if g, w := impl.Convert(from, to, c), wantedConvert(from, to, c); !sameCell(g, w) {
					t.Fatalf("%d to %d, %d: %v, want %v", from, to, i, g, w)
				}
			}
		}
	}
}

// P1
func TestConvertWrongInputs(t *testing.T) {
	for _, from := range dtypes {
		for _, c := range invalidCells(from) {
			for _, to := range dtypes {
				if g := impl.Convert(from, to, c); !sameCell(g, impl.Cell{}) {
					t.Errorf("%d to %d, not valid %v: %v", from, to, c, g)
				}
			}
		}
		for _, none := range noDTypes {
			for _, c := range samples(from) {
				if g := impl.Convert(from, none, c); !sameCell(g, impl.Cell{}) {
					t.Errorf("%d to %d, %v: %v", from, none, c, g)
				}
				if g := impl.Convert(none, from, c); !sameCell(g, impl.Cell{}) {
					t.Errorf("%d to %d, %v: %v", none, from, c, g)
				}
				if g := impl.Convert(none, none, c); !sameCell(g, impl.Cell{}) {
					t.Errorf("%d to itself, %v: %v", none, c, g)
				}
			}
		}
	}
}

// P2
func TestSafeCastsGoThereAndBack(t *testing.T) {
	for _, from := range dtypes {
		for _, to := range dtypes {
			if !impl.CanCast(from, to, 0) || from == 6 && kinds[to] >= 2 {
				continue
			}
			for _, c := range samples(from) {
				if g := impl.Convert(to, from, impl.Convert(from, to, c)); !sameCell(g, c) {
					t.Errorf("%d to %d and back: %v became %v", from, to, c, g)
				}
			}
		}
	}
}

// promoted: row a, column b, both 1..9.
var promoted = [9][9]int64{
	{1, 2, 3, 4, 5, 6, 7, 8, 9},
	{2, 2, 4, 4, 5, 6, 7, 8, 9},
	{3, 4, 3, 4, 5, 6, 7, 8, 9},
	{4, 4, 4, 4, 5, 6, 7, 8, 9},
	{5, 5, 5, 5, 5, 6, 8, 8, 9},
	{6, 6, 6, 6, 6, 6, 8, 8, 9},
	{7, 7, 7, 7, 8, 8, 7, 8, 9},
	{8, 8, 8, 8, 8, 8, 8, 8, 9},
	{9, 9, 9, 9, 9, 9, 9, 9, 9},
}

// P2
func TestPromoteAndCanCast(t *testing.T) {
	for _, a := range dtypes {
		for _, b := range dtypes {
			p := promoted[a-1][b-1]
			if g := impl.Promote(a, b); g != p {
				t.Errorf("promote %d %d: %d, want %d", a, b, g, p)
			}
			wanted := []bool{p == b, p == b || kinds[a] <= kinds[b], true}
			for rule, w := range wanted {
				if g := impl.CanCast(a, b, int64(rule)); g != w {
					t.Errorf("cast %d to %d by rule %d: %v", a, b, rule, g)
				}
			}
			for _, rule := range []int64{math.MinInt64, -1, 3, 4, math.MaxInt64} {
				if impl.CanCast(a, b, rule) {
					t.Errorf("cast %d to %d by rule %d", a, b, rule)
				}
			}
		}
	}
}

// P2
func TestPromoteAndCanCastOfNoDType(t *testing.T) {
	for _, none := range noDTypes {
		for _, other := range append(append([]int64{}, dtypes...), noDTypes...) {
			if impl.Promote(none, other) != 0 || impl.Promote(other, none) != 0 {
				t.Errorf("promote %d %d", none, other)
			}
			for rule := int64(-1); rule <= 3; rule++ {
				if impl.CanCast(none, other, rule) || impl.CanCast(other, none, rule) {
					t.Errorf("cast %d %d by rule %d", none, other, rule)
				}
			}
		}
	}
}
