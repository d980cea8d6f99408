package tests

import (
	"math"
	"testing"

	"loop.example/s16388/impl"
)

// opKinds: for each op, whether it is for kind 0 (Bool), 1 (integers), 2 (floats), 3 (complex).
var opKinds = map[int64][4]bool{
	1:  {true, true, true, true},
	2:  {true, true, true, true},
	3:  {true, true, true, true},
	4:  {false, true, true, false},
	5:  {true, true, true, false},
	6:  {true, true, true, false},
	7:  {true, true, true, false},
	8:  {true, true, true, true},
	9:  {false, true, false, false},
	10: {false, true, false, false},
}

var unaryKinds = map[int64][4]bool{
	1: {false, true, true, true},
	2: {true, true, false, false},
	3: {false, true, true, false},
	4: {true, true, true, true},
}

var noOps = []int64{math.MinInt64, -1, 0, 11, 12, 100, math.MaxInt64}
var noUnaries = []int64{math.MinInt64, -1, 0, 5, 6, 10, math.MaxInt64}

// P3
func TestApplyAllRowsAndColumns(t *testing.T) {
	for _, dt := range dtypes {
		cells := samples(dt)
		for op := int64(1); op <= 10; op++ {
			if !opKinds[op][kinds[dt]] {
				continue
			}
			result := dt
			if op == 7 || op == 8 {
				result = 1
			}
			for _, a := range cells {
				for _, b := range cells {
					g := impl.Apply(op, dt, a, b)
					w := impl.Applied{DType: result, Cell: wantedCell(op, dt, a, b)}
					if !sameApplied(g, w) || !impl.ValidCell(result, g.Cell) {
						t.Fatalf("op %d dtype %d %v %v: %+v, want %+v", op, dt, a, b, g, w)
					}
				}
			}
		}
	}
}

// P3: every pair of values of the dtypes with 8 bits.
func TestApplyAllBytes(t *testing.T) {
	for _, dt := range []int64{2, 3} {
		for op := int64(1); op <= 10; op++ {
			for a := lowest[dt]; a <= highest[dt]; a++ {
				for b := lowest[dt]; b <= highest[dt]; b++ {
					g := impl.Apply(op, dt, integerCell(a), integerCell(b))
					w := wantedInteger(op, dt, a, b)
					if g.Code != 0 || !sameCell(g.Cell, w) {
						t.Fatalf("op %d dtype %d %d %d: %+v, want %v", op, dt, a, b, g, w)
					}
				}
			}
		}
	}
}

// P3
func TestApplyEdges(t *testing.T) {
	i, f, z := integerCell, floatCell, complexCell
	near := 1 + math.Ldexp(1, -30)
	cases := []struct {
		op   int64
		dt   int64
		a    impl.Cell
		b    impl.Cell
		want impl.Applied
	}{
		{1, 6, i(math.MaxInt64), i(1), impl.Applied{DType: 6, Cell: i(math.MinInt64)}},
		{2, 5, i(-2147483648), i(1), impl.Applied{DType: 5, Cell: i(2147483647)}},
		{3, 4, i(-32768), i(-1), impl.Applied{DType: 4, Cell: i(-32768)}},
		{3, 3, i(16), i(17), impl.Applied{DType: 3, Cell: i(16)}},
		{4, 6, i(math.MinInt64), i(-1), impl.Applied{DType: 6, Cell: i(math.MinInt64)}},
		{4, 5, i(-2147483648), i(-1), impl.Applied{DType: 5, Cell: i(-2147483648)}},
		{4, 4, i(-32768), i(-1), impl.Applied{DType: 4, Cell: i(-32768)}},
		{4, 2, i(-128), i(0), impl.Applied{DType: 2, Cell: i(0)}},
		{4, 3, i(255), i(2), impl.Applied{DType: 3, Cell: i(127)}},
		{9, 2, i(1), i(7), impl.Applied{DType: 2, Cell: i(-128)}},
		{9, 2, i(1), i(8), impl.Applied{DType: 2, Cell: i(0)}},
		{9, 6, i(-1), i(63), impl.Applied{DType: 6, Cell: i(math.MinInt64)}},
		{9, 6, i(-1), i(64), impl.Applied{DType: 6, Cell: i(0)}},
		{9, 6, i(-1), i(-1), impl.Applied{DType: 6, Cell: i(0)}},
		{9, 6, i(-1), i(math.MinInt64), impl.Applied{DType: 6, Cell: i(0)}},
		{10, 6, i(-1), i(math.MaxInt64), impl.Applied{DType: 6, Cell: i(-1)}},
		{10, 6, i(-5), i(math.MinInt64), impl.Applied{DType: 6, Cell: i(-1)}},
		{10, 6, i(5), i(-1), impl.Applied{DType: 6, Cell: i(0)}},
		{10, 3, i(255), i(7), impl.Applied{DType: 3, Cell: i(1)}},
		{10, 3, i(255), i(8), impl.Applied{DType: 3, Cell: i(0)}},
		{10, 5, i(-2147483648), i(32), impl.Applied{DType: 5, Cell: i(-1)}},
		{4, 8, f(1), f(0), impl.Applied{DType: 8, Cell: f(inf)}},
		{4, 7, f(-1), f(0), impl.Applied{DType: 7, Cell: f(-inf)}},
		{4, 7, f(0), f(minusZero), impl.Applied{DType: 7, Cell: f(nan)}},
		{1, 8, f(minusZero), f(minusZero), impl.Applied{DType: 8, Cell: f(minusZero)}},
		{1, 8, f(minusZero), f(0), impl.Applied{DType: 8, Cell: f(0)}},
		{2, 8, f(inf), f(inf), impl.Applied{DType: 8, Cell: f(nan)}},
		{3, 7, f(math.MaxFloat32), f(2), impl.Applied{DType: 7, Cell: f(inf)}},
		{1, 7, f(16777216), f(1), impl.Applied{DType: 7, Cell: f(16777216)}},
		{4, 7, f(1), f(3), impl.Applied{DType: 7, Cell: f(float64(float32(1) / float32(3)))}},
		{5, 8, f(0), f(minusZero), impl.Applied{DType: 8, Cell: f(minusZero)}},
		{5, 7, f(minusZero), f(0), impl.Applied{DType: 7, Cell: f(minusZero)}},
		{6, 8, f(0), f(minusZero), impl.Applied{DType: 8, Cell: f(0)}},
		{6, 7, f(minusZero), f(0), impl.Applied{DType: 7, Cell: f(0)}},
		{5, 8, f(nan), f(-inf), impl.Applied{DType: 8, Cell: f(nan)}},
		{5, 8, f(-inf), f(nan), impl.Applied{DType: 8, Cell: f(nan)}},
		{6, 7, f(nan), f(inf), impl.Applied{DType: 7, Cell: f(nan)}},
		{7, 8, f(nan), f(nan), impl.Applied{DType: 1, Cell: i(0)}},
		{7, 8, f(minusZero), f(0), impl.Applied{DType: 1, Cell: i(0)}},
		{8, 8, f(nan), f(nan), impl.Applied{DType: 1, Cell: i(0)}},
		{8, 7, f(minusZero), f(0), impl.Applied{DType: 1, Cell: i(1)}},
		{8, 9, z(0, minusZero), z(minusZero, 0), impl.Applied{DType: 1, Cell: i(1)}},
		{8, 9, z(1, nan), z(1, nan), impl.Applied{DType: 1, Cell: i(0)}},
		{8, 9, z(1, 2), z(1, 2), impl.Applied{DType: 1, Cell: i(1)}},
		{8, 9, z(2, 2), z(1, 2), impl.Applied{DType: 1, Cell: i(0)}},
		{3, 9, z(near, near), z(near, near), impl.Applied{DType: 9, Cell: z(0, 2*(1+math.Ldexp(1, -29)))}},
		{3, 9, z(inf, 0), z(1, 0), impl.Applied{DType: 9, Cell: z(inf, nan)}},
		{3, 9, z(minusZero, 0), z(1, 0), impl.Applied{DType: 9, Cell: z(minusZero, 0)}},
		{3, 9, z(0, 1), z(0, 1), impl.Applied{DType: 9, Cell: z(-1, 0)}},
		{2, 9, z(1, 2), z(1, 3), impl.Applied{DType: 9, Cell: z(0, -1)}},
	}
	for _, c := range cases {
		if g := impl.Apply(c.op, c.dt, c.a, c.b); !sameApplied(g, c.want) {
			t.Errorf("op %d dtype %d %v %v: %+v, want %+v", c.op, c.dt, c.a, c.b, g, c.want)
		}
	}
}

// P3: the product's parts have different signs of zero and different roundings if they are fused or taken in another form.
func TestComplexProductIsSixOperations(t *testing.T) {
	state := uint64(1)
	next := func() float64 {
		state = state*6364136223846793005 + 1442695040888963407
		return math.Ldexp(float64(int64(state)>>11), -40)
	}
	for range 2000 {
		a, b := complexCell(next(), next()), complexCell(next(), next())
		g := impl.Apply(3, 9, a, b)
		if w := wantedComplex(3, a, b); !sameCell(g.Cell, w) {
			t.Fatalf("%v times %v: %v, want %v", a, b, g.Cell, w)
		}
	}
}

// P3
func TestApplyCodes(t *testing.T) {
	for _, dt := range append(append([]int64{}, dtypes...), noDTypes...) {
		good := impl.Cell{}
		bad := impl.Cell{I: 1, F: 1}
		for _, op := range noOps {
			for _, c := range []impl.Cell{good, bad} {
				if g := impl.Apply(op, dt, c, c); !sameApplied(g, impl.Applied{Code: 3}) {
					t.Errorf("op %d dtype %d: %+v", op, dt, g)
				}
			}
		}
		for op := int64(1); op <= 10; op++ {
			kind, known := kinds[dt]
			want := impl.Applied{Code: 14}
			if !known || !opKinds[op][kind] {
				want.Code = 4
			}
			for _, pair := range [][2]impl.Cell{{good, bad}, {bad, good}, {bad, bad}} {
				if g := impl.Apply(op, dt, pair[0], pair[1]); !sameApplied(g, want) {
					t.Errorf("op %d dtype %d %v: %+v, want %+v", op, dt, pair, g, want)
				}
			}
			if g := impl.Apply(op, dt, good, good); want.Code == 4 && !sameApplied(g, want) {
				t.Errorf("op %d dtype %d: %+v", op, dt, g)
			}
		}
	}
}

// P3
func TestApplyCellsThatAreNotValid(t *testing.T) {
	for _, dt := range dtypes {
		for _, bad := range invalidCells(dt) {
			for _, pair := range [][2]impl.Cell{{bad, {}}, {{}, bad}, {bad, bad}} {
				if g := impl.Apply(1, dt, pair[0], pair[1]); !sameApplied(g, impl.Applied{Code: 14}) {
					t.Errorf("dtype %d %v: %+v", dt, pair, g)
				}
			}
			if g := impl.ApplyUnary(4, dt, bad); !sameApplied(g, impl.Applied{Code: 14}) {
				t.Errorf("dtype %d %v: %+v", dt, bad, g)
			}
		}
	}
}

// P3
func TestApplyUnaryAllRowsAndColumns(t *testing.T) {
	for _, dt := range dtypes {
		for op := int64(1); op <= 4; op++ {
			if !unaryKinds[op][kinds[dt]] {
				continue
			}
			for _, a := range samples(dt) {
				g := impl.ApplyUnary(op, dt, a)
				w := impl.Applied{DType: dt, Cell: wantedUnary(op, dt, a)}
				if !sameApplied(g, w) || !impl.ValidCell(dt, g.Cell) {
					t.Errorf("op %d dtype %d %v: %+v, want %+v", op, dt, a, g, w)
				}
			}
		}
	}
}

// P3
func TestApplyUnaryEdges(t *testing.T) {
	i, f, z := integerCell, floatCell, complexCell
	cases := []struct {
		op   int64
		dt   int64
		a    impl.Cell
		want impl.Cell
	}{
		{1, 6, i(math.MinInt64), i(math.MinInt64)}, {3, 6, i(math.MinInt64), i(math.MinInt64)}, {3, 2, i(-128), i(-128)}, {1, 3, i(255), i(1)}, {3, 3, i(200), i(200)},
		{2, 1, i(0), i(1)}, {2, 6, i(math.MaxInt64), i(math.MinInt64)}, {2, 3, i(0), i(255)}, {2, 2, i(-128), i(127)},
		{1, 8, f(0), f(minusZero)}, {1, 7, f(minusZero), f(0)}, {1, 8, f(inf), f(-inf)}, {1, 7, f(nan), f(nan)},
		{3, 7, f(minusZero), f(0)}, {3, 8, f(-inf), f(inf)}, {3, 8, f(nan), f(nan)},
		{1, 9, z(0, minusZero), z(minusZero, 0)}, {1, 9, z(inf, 1), z(-inf, -1)}, {1, 9, z(1, 0), z(-1, minusZero)},
		{4, 9, z(minusZero, 0), z(minusZero, minusZero)}, {4, 9, z(1, -inf), z(1, inf)}, {4, 1, i(1), i(1)}, {4, 8, f(minusZero), f(minusZero)}, {4, 6, i(math.MinInt64), i(math.MinInt64)},
	}
	for _, c := range cases {
		if g := impl.ApplyUnary(c.op, c.dt, c.a); !sameApplied(g, impl.Applied{DType: c.dt, Cell: c.want}) {
			t.Errorf("op %d dtype %d %v: %+v, want %v", c.op, c.dt, c.a, g, c.want)
		}
	}
}

// P3
func TestApplyUnaryCodes(t *testing.T) {
	for _, dt := range append(append([]int64{}, dtypes...), noDTypes...) {
		bad := impl.Cell{I: 1, F: 1}
		for _, op := range noUnaries {
			for _, c := range []impl.Cell{{}, bad} {
				if g := impl.ApplyUnary(op, dt, c); !sameApplied(g, impl.Applied{Code: 3}) {
					t.Errorf("op %d dtype %d: %+v", op, dt, g)
				}
			}
		}
		for op := int64(1); op <= 4; op++ {
			kind, known := kinds[dt]
			want := impl.Applied{Code: 14}
			if !known || !unaryKinds[op][kind] {
				want.Code = 4
			}
			if g := impl.ApplyUnary(op, dt, bad); !sameApplied(g, want) {
				t.Errorf("op %d dtype %d: %+v, want %+v", op, dt, g, want)
			}
			if g := impl.ApplyUnary(op, dt, impl.Cell{}); want.Code == 4 && !sameApplied(g, want) {
				t.Errorf("op %d dtype %d: %+v", op, dt, g)
			}
		}
	}
}
