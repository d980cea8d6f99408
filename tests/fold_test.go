package tests

import (
	"math"
	"slices"
	"testing"

	"loop.example/s16388/impl"
)

var foldOps = list(1, 3, 5, 6)

// laneViews are views of 36 elements in 48 cells, read forward, backward, transposed, with gaps and with several elements on one place.
func laneViews() []impl.View {
	shape := list(3, 4, 3)
	return []impl.View{
		viewOf(shape, list(12, 3, 1), 0), viewOf(shape, list(-12, -3, -1), 47), viewOf(shape, list(1, 3, 12), 5), viewOf(shape, list(-1, 12, 4), 3), viewOf(shape, list(16, 4, 1), 0),
		viewOf(shape, list(0, 3, 1), 7), viewOf(shape, list(3, 0, 1), 20), viewOf(shape, list(9, 3, 0), 11), viewOf(shape, list(0, 0, 0), 30), viewOf(shape, list(1, 1, 1), 2),
	}
}

// outShape has, for an axis, the shape that out must have.
func (c arrayCall) outShape() []int64 {
	if c.name == "Reduce" {
		return withoutAxis(c.a.View.Shape, c.axis)
	}
	return c.laned().View.Shape
}

// P12
func TestFoldsOfEveryDType(t *testing.T) {
	h := dtypeHeap()
	for _, name := range []string{"Reduce", "Scan"} {
		good := 0
		for k, v := range laneViews() {
			for _, dt := range dtypes {
				for _, out := range dtypes {
					for _, op := range foldOps {
						c := arrayCall{name: name, heap: h, op: op, a: arrayOf(dt+8, v), axis: (int64(k) + dt + out) % 3}
						c.out = dense(out-1, int64(k), c.outShape()...)
						good += int(1 - min(1, checkCall(t, c).Code))
					}
				}
			}
		}
		if good < 1500 {
			t.Errorf("%s: only %d calls were good", name, good)
		}
	}
}

// P12: along every axis of every view, with out of the dtype of the result; the last of each lane of Scan is what Reduce gives.
func TestFoldsAlongEveryAxis(t *testing.T) {
	h := dtypeHeap()
	views := append(laneViews(), dense(0, 0, 48).View, dense(0, 0, 6, 8).View, dense(0, 0, 2, 3, 2, 4).View, viewOf(list(2, 3, 2, 4), list(4, 8, -2, 1), 2), dense(0, 0, 1, 5).View, dense(0, 9, 5, 1).View)
	for _, v := range views {
		for _, dt := range dtypes {
			for _, op := range foldOps {
				for axis := range v.Shape {
					if dt == 9 && op > 3 {
						continue
					}
					c := arrayCall{name: "Reduce", heap: h, op: op, a: arrayOf(dt+8, v), axis: int64(axis)}
					c.out = dense(c.resultDType()-1, 0, c.outShape()...)
					checkLast(t, c)
				}
			}
		}
	}
}

func checkLast(t *testing.T, c arrayCall) {
	t.Helper()
	folds := impl.Read(checkCall(t, c).Heap, c.out)
	c.name = "Scan"
	c.out = dense(c.out.Store, 0, c.outShape()...)
	r := checkCall(t, c)
	last := impl.Slice(c.out.View, c.axis, -1, 1000000, 1).View
	if got := impl.Read(r.Heap, arrayOf(c.out.Store, last)); len(got) == 0 || !sameCells(got, folds) {
		t.Errorf("%+v: Scan ends with %v, Reduce gives %v", c, got, folds)
	}
}

// P12: nothing is added to a lone element or multiplied with it.
func TestLoneElementsStay(t *testing.T) {
	for _, dt := range dtypes {
		cells := samples(dt)
		n := int64(len(cells))
		for _, op := range foldOps {
			if dt == 9 && op > 3 {
				continue
			}
			c := arrayCall{name: "Reduce", heap: heapOf(storeOf(dt, cells...), storeOf(6, make([]impl.Cell, n)...)), op: op, a: dense(0, 0, n, 1), axis: 1, out: dense(0, 0, n)}
			if c.resultDType() == 6 {
				c.out.Store = 1
			}
			checkStore(t, "Reduce", impl.Reduce(c.heap, op, c.a, 1, c.out), int(c.out.Store), storeOf(c.resultDType(), cells...))
			c.out.View = dense(0, 0, n, 1).View
			checkStore(t, "Scan", impl.Scan(c.heap, op, c.a, 1, c.out), int(c.out.Store), storeOf(c.resultDType(), cells...))
			c.a.View, c.out.View = dense(0, 0, 1, n).View, dense(0, 0, 1, n).View
			checkStore(t, "Scan", impl.Scan(c.heap, op, c.a, 0, c.out), int(c.out.Store), storeOf(c.resultDType(), cells...))
		}
	}
}

// P12
func TestOrderOfFolds(t *testing.T) {
	third := float64(float32(1.0 / 3))
	cases := []struct {
		name string
		op   int64
		a    impl.Store
		want impl.Store // the elements of Scan; its last is that of Reduce
	}{
		{"a small one is lost in a large one", 1, floatStore(8, 1e16, 1, 1, -1e16), floatStore(8, 1e16, 1e16, 1e16, 0)},
		{"small ones first", 1, floatStore(8, 1, 1, 1e16, -1e16), floatStore(8, 1, 2, 1e16+2, 2)},
		{"tenths", 1, floatStore(8, 0.1, 0.1, 0.1), floatStore(8, 0.1, 0.2, 0.30000000000000004)},
		{"a product that overflows on its way", 3, floatStore(8, 1e300, 1e300, 1e-300), floatStore(8, 1e300, inf, inf)},
		{"a product that does not", 3, floatStore(8, 1e300, 1e-300, 1e300), floatStore(8, 1e300, 1, 1e300)},
		{"a product that becomes 0 on its way", 3, floatStore(8, -1e-300, 1e-300, 1e300), floatStore(8, -1e-300, minusZero, minusZero)},
		{"single precision in each step", 1, floatStore(7, 16777216, 1, 1), floatStore(7, 16777216, 16777216, 16777216)},
		{"single precision, small ones first", 1, floatStore(7, 1, 1, 16777216), floatStore(7, 1, 2, 16777218)},
		{"single precision of products", 3, floatStore(7, third, 3, 3), floatStore(7, third, 1, 3)},
		{"zeros below 0", 1, floatStore(8, minusZero, minusZero), floatStore(8, minusZero, minusZero)},
		{"zeros of both signs", 1, floatStore(8, minusZero, 0, minusZero), floatStore(8, minusZero, 0, 0)},
		{"infinities", 1, floatStore(8, inf, 1, -inf, 1), floatStore(8, inf, inf, nan, nan)},
		{"the smallest of zeros", 5, floatStore(8, 0, minusZero, 0), floatStore(8, 0, minusZero, minusZero)},
		{"the largest of zeros", 6, floatStore(8, minusZero, 0, minusZero), floatStore(8, minusZero, 0, 0)},
		{"the largest with NaN", 6, floatStore(8, 1, nan, inf), floatStore(8, 1, nan, nan)},
		{"truth values are counted", 1, integerStore(1, 1, 0, 1, 1), integerStore(6, 1, 1, 2, 3)},
		{"truth values multiplied", 3, integerStore(1, 1, 1, 0, 1), integerStore(6, 1, 1, 0, 0)},
		{"the smallest truth value", 5, integerStore(1, 1, 1, 0), integerStore(1, 1, 1, 0)},
		{"the largest truth value", 6, integerStore(1, 0, 0, 1), integerStore(1, 0, 0, 1)},
		{"sums beyond I8", 1, integerStore(2, 127, 127, -128, 127), integerStore(6, 127, 254, 126, 253)},
		{"products beyond U8", 3, integerStore(3, 255, 255, 255), integerStore(6, 255, 65025, 16581375)},
		{"sums beyond I32", 1, integerStore(5, 2147483647, 1, 2147483647), integerStore(6, 2147483647, 2147483648, 4294967295)},
		{"I64 wraps", 1, integerStore(6, math.MaxInt64, 1, -1), integerStore(6, math.MaxInt64, math.MinInt64, math.MaxInt64)},
		{"products of I32 wrap in I64", 3, integerStore(5, -2147483648, -2147483648, 2, 3), integerStore(6, -2147483648, 1<<62, math.MinInt64, math.MinInt64)},
		{"the smallest U8 stays U8", 5, integerStore(3, 200, 100, 255), integerStore(3, 200, 100, 100)},
		{"complex products", 3, storeOf(9, complexCell(0, 1), complexCell(0, 1), complexCell(2, 3)), storeOf(9, complexCell(0, 1), complexCell(-1, 0), complexCell(-2, -3))},
		{"complex sums", 1, storeOf(9, complexCell(1e16, minusZero), complexCell(1, minusZero), complexCell(-1e16, 0)), storeOf(9, complexCell(1e16, minusZero), complexCell(1e16, minusZero), complexCell(0, 0))},
	}
	for _, c := range cases {
		n := int64(len(c.a.Cells))
		h := heapOf(c.a, storeOf(c.want.DType, make([]impl.Cell, n)...))
		checkStore(t, c.name, impl.Scan(h, c.op, dense(0, 0, n), 0, dense(1, 0, n)), 1, c.want)
		h = heapOf(c.a, storeOf(c.want.DType, make([]impl.Cell, 1)...))
		checkStore(t, c.name, impl.Reduce(h, c.op, dense(0, 0, n), 0, dense(1, 0)), 1, storeOf(c.want.DType, c.want.Cells[n-1]))
	}
}

// P12
func TestFoldsAreCutAtTheEnd(t *testing.T) {
	sum := func(a impl.Store, out impl.Store) impl.HeapResult {
		return impl.Reduce(heapOf(a, out), 1, dense(0, 0, int64(len(a.Cells))), 0, dense(1, 0))
	}
	checkStore(t, "U8 into U8", sum(integerStore(3, 200, 100), integerStore(3, 9)), 1, integerStore(3, 44))
	checkStore(t, "U8 into I8", sum(integerStore(3, 200), integerStore(2, 9)), 1, integerStore(2, -56))
	checkStore(t, "U8 into F64", sum(integerStore(3, 200, 100), floatStore(8, 9)), 1, floatStore(8, 300))
	checkStore(t, "I8 into C128", sum(integerStore(2, -128, -128), storeOf(9, complexCell(9, 9))), 1, storeOf(9, complexCell(-256, 0)))
	checkStore(t, "I64 into F32, rounded once", sum(integerStore(6, 1<<60+1<<36, 1), floatStore(7, 9)), 1, floatStore(7, float64(float32(1<<60+1<<36+1))))
	checkStore(t, "F64 into F32, rounded once", sum(floatStore(8, 1, math.Ldexp(1, -24), math.Ldexp(1, -52)), floatStore(7, 9)), 1, floatStore(7, 1+math.Ldexp(1, -23)))
	h := heapOf(integerStore(3, 200, 100, 100), integerStore(2, 0, 0, 0))
	checkStore(t, "Scan into I8", impl.Scan(h, 1, dense(0, 0, 3), 0, dense(1, 0, 3)), 1, integerStore(2, -56, 44, -112))
	for _, dt := range list(2, 3, 4, 5, 6) {
		if r := sum(integerStore(dt, 1, 1), integerStore(1, 0)); r.Code != 10 {
			t.Errorf("dtype %d into Bool: code %d", dt, r.Code)
		}
	}
	if r := sum(integerStore(1, 1, 1), integerStore(1, 0)); r.Code != 10 {
		t.Errorf("a sum of truth values is an integer: code %d", r.Code)
	}
	checkStore(t, "Bool into U8", sum(integerStore(1, 1, 1), integerStore(3, 0)), 1, integerStore(3, 2))
}

// P12
func TestFoldsOfEmptyLanes(t *testing.T) {
	for _, dt := range dtypes {
		for _, op := range foldOps {
			for _, shape := range [][]int64{{0}, {2, 0}, {0, 2}, {0, 0}, {2, 0, 2}, {0, 0, 2}, {4, 0, 0}, {1, 0, 1, 1}, {0, 4096, 1}, {4096, 0}, {0, 4096, 4096}} {
				for axis := range shape {
					c := arrayCall{name: "Reduce", heap: heapOf(storeOf(dt)), op: op, a: dense(0, 0, shape...), axis: int64(axis)}
					c.a.View.Strides = make([]int64, len(shape))
					if !wantedGood(c.outShape()) {
						continue
					}
					q, n := c.resultDType(), int(wantedCount(c.outShape()).Int64())
					c.heap.Stores = append(c.heap.Stores, storeOf(q, slices.Repeat(samples(q)[1:2], n+1)...))
					c.out = dense(1, 0, c.outShape()...)
					c.out.View.Strides = rowStrides(c.outShape())
					checkCall(t, c)
					c.name, c.out.View = "Scan", c.a.View
					checkCall(t, c)
				}
			}
		}
	}
}

// rowStrides keeps within what a stride may be, also where a length is 0.
func rowStrides(shape []int64) []int64 {
	if slices.Contains(shape, 0) {
		return make([]int64, len(shape))
	}
	return dense(0, 0, shape...).View.Strides
}

// P12
func TestEmptyLanesByName(t *testing.T) {
	for _, dt := range dtypes {
		c := arrayCall{name: "Reduce", heap: heapOf(storeOf(dt)), op: 1, a: dense(0, 0, 0)}
		q := c.resultDType()
		zero, one := impl.Convert(6, q, integerCell(0)), impl.Convert(6, q, integerCell(1))
		for _, shape := range [][]int64{{2, 0}, {0, 2}} {
			axis := int64(slices.Index(shape, 0))
			h := heapOf(storeOf(dt), storeOf(q, samples(q)[0], samples(q)[0], samples(q)[0]))
			checkStore(t, "sum", impl.Reduce(h, 1, dense(0, 0, shape...), axis, dense(1, 0, 2)), 1, storeOf(q, zero, zero, samples(q)[0]))
			checkStore(t, "product", impl.Reduce(h, 3, dense(0, 0, shape...), axis, dense(1, 0, 2)), 1, storeOf(q, one, one, samples(q)[0]))
			for op := int64(5); op <= 6; op++ {
				want := int64(7)
				if dt == 9 {
					want = 4
				}
				if r := impl.Reduce(h, op, dense(0, 0, shape...), axis, dense(1, 0, 2)); r.Code != want {
					t.Errorf("dtype %d, op %d: code %d, want %d", dt, op, r.Code, want)
				}
				if r := impl.Reduce(h, op, dense(0, 0, 0, 0), 0, dense(1, 0, 0)); r.Code != codeWhere(dt == 9, 4) {
					t.Errorf("dtype %d, op %d, nowhere: code %d", dt, op, r.Code)
				}
				if r := impl.Reduce(h, op, dense(0, 0, shape...), 1-axis, dense(1, 0, 0)); r.Code != codeWhere(dt == 9, 4) {
					t.Errorf("dtype %d, op %d, the other axis: code %d", dt, op, r.Code)
				}
			}
		}
	}
}

// P12, P13: lanes without elements may be so many that they can't be gone through.
func TestVeryManyEmptyLanes(t *testing.T) {
	h := heapOf(floatStore(8, 1, 2), countingStore(6, 2))
	many := arrayOf(0, viewOf(list(4096, 4096, 4096, 0), list(0, 0, 0, 0), 0))
	for axis := range int64(4) {
		for _, name := range []string{"Scan", "SortAxis", "ArgSort"} {
			if r := checkCall(t, arrayCall{name: name, heap: h, op: 1, a: many, axis: axis, out: many}); r.Code != 0 {
				t.Errorf("%s along %d: code %d", name, axis, r.Code)
			}
		}
	}
	for _, op := range foldOps {
		c := arrayCall{name: "Reduce", heap: h, op: op, a: many, axis: 1, out: arrayOf(0, viewOf(list(4096, 4096, 0), list(0, 0, 0), 0))}
		if r := checkCall(t, c); r.Code != 0 {
			t.Errorf("op %d: code %d", op, r.Code)
		}
	}
}

// P12, P13
func TestAxesThatAreNotThere(t *testing.T) {
	h := heapOf(countingStore(6, 16), countingStore(6, 16))
	for dims := range int64(5) {
		shape := slices.Repeat(list(2), int(dims))
		for _, name := range []string{"Reduce", "Scan", "SortAxis", "ArgSort"} {
			for _, axis := range list(math.MinInt64, -5, -dims, -1, 0, 1, 2, 3, 4, 5, 1<<32, math.MaxInt64) {
				c := arrayCall{name: name, heap: h, op: 1, a: dense(0, 0, shape...), out: dense(1, 0, shape...), axis: axis}
				if name == "Reduce" {
					c.out = dense(1, 0, slices.Repeat(list(2), max(int(dims)-1, 0))...)
				}
				if r := checkCall(t, c); r.Code != codeWhere(axis < 0 || axis >= dims, 5) {
					t.Errorf("%s along %d of %d axes: code %d", name, axis, dims, r.Code)
				}
			}
		}
	}
}

// P12
func TestOpsThatDoNotFold(t *testing.T) {
	for _, dt := range dtypes {
		for _, name := range []string{"Reduce", "Scan"} {
			for _, op := range append(list(2, 4, 7, 8, 9, 10), noOps...) {
				for _, axis := range list(0, 7) {
					c := arrayCall{name: name, heap: dtypeHeap(), op: op, a: dense(dt-1, 0, 4, 6), axis: axis, out: dense(dt-1, 0, 6)}
					if name == "Scan" {
						c.out = c.a
					}
					if r := checkCall(t, c); r.Code != 3 {
						t.Errorf("%s, op %d, dtype %d: code %d", name, op, dt, r.Code)
					}
				}
			}
		}
	}
}

// P12
func TestExtremesOfComplexNumbers(t *testing.T) {
	h := dtypeHeap()
	for _, name := range []string{"Reduce", "Scan"} {
		for _, op := range foldOps {
			// Along axis 1 of one, and into a shape that out must not have.
			for axis, want := range list(6, 5) {
				c := arrayCall{name: name, heap: h, op: op, a: dense(8, 0, 48), axis: int64(axis), out: dense(8, 0, 2)}
				if op > 3 {
					want = 4
				}
				if r := checkCall(t, c); r.Code != want {
					t.Errorf("%s, op %d, axis %d: code %d, want %d", name, op, axis, r.Code, want)
				}
			}
			c := arrayCall{name: name, heap: h, op: op, a: dense(8, 0, 6, 8), axis: 1, out: dense(17, 0, 6)}
			if name == "Scan" {
				c.out = dense(17, 0, 6, 8)
			}
			if r := checkCall(t, c); r.Code != codeWhere(op > 3, 4) {
				t.Errorf("%s, op %d: code %d", name, op, r.Code)
			}
		}
	}
}

// P12: the shape of out is that of a without the axis, and no other, though it may have as many elements.
func TestShapesOfFolds(t *testing.T) {
	h := heapOf(countingStore(6, 48), countingStore(6, 48))
	good := 0
	for _, shape := range smallShapes() {
		for axis := range shape {
			for _, out := range smallShapes() {
				for _, name := range []string{"Reduce", "Scan", "ArgSort"} {
					c := arrayCall{name: name, heap: h, op: 3, a: dense(0, 0, shape...), axis: int64(axis), out: dense(1, 0, out...)}
					r := checkCall(t, c)
					if fits := slices.Equal(out, c.outShape()); r.Code != codeWhere(!fits, 6) {
						t.Errorf("%s of %v along %d into %v: code %d", name, shape, axis, out, r.Code)
					}
					good += int(1 - min(1, r.Code))
				}
			}
		}
	}
	if good < 500 {
		t.Errorf("only %d calls were good", good)
	}
}

// P9, P12, P13
func TestLanesThatSharePlacesWithOut(t *testing.T) {
	s := integerStore(5, 7, 3, -2, 9, 4, 4, 0, -8, 5, 1, 6, -3, 2, 8, -1, 7, 3, 3, 0, 5, -6, 9, 1, 2, 4, -5, 6, 8, 7, 0, -4, 2, 5, 3, 1, 9, -7, 6, 4, 8)
	for _, a := range sharedInputs() {
		if len(a.Shape) != 2 || a.Shape[0] != 4 || a.Shape[1] != 4 {
			continue
		}
		for axis := range int64(2) {
			for _, out := range sharedOuts() {
				for _, op := range foldOps {
					checkOwnStores(t, arrayCall{name: "Scan", heap: heapOf(s), op: op, a: arrayOf(0, a), axis: axis, out: arrayOf(0, out)})
				}
				checkOwnStores(t, arrayCall{name: "ArgSort", heap: heapOf(s), a: arrayOf(0, a), axis: axis, out: arrayOf(0, out)})
			}
			for _, out := range []impl.View{viewOf(list(4), list(1), 0), viewOf(list(4), list(-1), 15), viewOf(list(4), list(4), 1), viewOf(list(4), list(5), 0), viewOf(list(4), list(-4), 14), viewOf(list(4), list(9), 3)} {
				for _, op := range foldOps {
					checkOwnStores(t, arrayCall{name: "Reduce", heap: heapOf(s), op: op, a: arrayOf(0, a), axis: axis, out: arrayOf(0, out)})
				}
			}
		}
	}
}

// P12
func TestFoldsOfTheLongestLanes(t *testing.T) {
	d := draws(5)
	s := impl.Store{DType: 8}
	var sums []float64
	sum := 0.0
	for i := range 4096 {
		x := float64(d.between(-1000000, 1000000)) / float64(d.between(1, 999))
		s.Cells = append(s.Cells, floatCell(x))
		if i == 0 {
			sum = x
		} else {
			sum += x
		}
		sums = append(sums, sum)
	}
	h := heapOf(s, floatStore(8, 0))
	checkStore(t, "sum", impl.Reduce(h, 1, dense(0, 0, 4096), 0, dense(1, 0)), 1, floatStore(8, sum))
	checkStore(t, "sums", impl.Scan(h, 1, dense(0, 0, 1, 4096, 1), 1, dense(0, 0, 1, 4096, 1)), 0, floatStore(8, sums...))
	square := arrayCall{name: "Reduce", heap: h, op: 1, a: dense(0, 0, 64, 64), axis: 0, out: dense(0, 0, 64)}
	checkOwnStores(t, square)
	square.axis, square.out = 1, arrayOf(0, viewOf(list(64), list(-64), 4095))
	checkOwnStores(t, square)
	checkCall(t, arrayCall{name: "Scan", heap: heapOf(countingStore(6, 4096)), op: 1, a: dense(0, 0, 8, 8, 8, 8), axis: 2, out: arrayOf(0, viewOf(list(8, 8, 8, 8), list(1, 8, 64, 512), 0))})
}
