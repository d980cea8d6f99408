package tests

import (
	"slices"
	"testing"

	"loop.example/s16388/impl"
)

// P14
func TestProductsOfEveryPairOfDTypes(t *testing.T) {
	h := dtypeHeap()
	lefts := []impl.View{dense(0, 0, 3, 5).View, viewOf(list(3, 5), list(-5, -1), 47), viewOf(list(3, 5), list(1, 3), 11), viewOf(list(3, 5), list(0, 2), 9)}
	rights := []impl.View{dense(0, 8, 5, 2).View, viewOf(list(5, 2), list(1, 5), 0), viewOf(list(5, 2), list(7, 0), 3), viewOf(list(5, 2), list(-9, 4), 40)}
	good := 0
	for i, a := range dtypes {
		for k, b := range dtypes {
			for n, out := range dtypes {
				for way := range lefts {
					c := arrayCall{name: "MatMul", heap: h, a: arrayOf(a-1, lefts[way]), b: arrayOf(b+8, rights[(way+i+k+n)%4]), out: dense(out-1, int64(way), 3, 2)}
					good += int(1 - min(1, checkCall(t, c).Code))
				}
			}
		}
	}
	if good < 1000 {
		t.Errorf("only %d calls were good", good)
	}
}

// P14: with one k it is the product alone; every two samples, as one column by one row.
func TestProductsWithOneBetween(t *testing.T) {
	for _, dt := range dtypes {
		column, row := someSamples(dt, 40), samples(dt)
		row = row[:min(len(row), 100)]
		n, m := int64(len(column)), int64(len(row))
		h := heapOf(storeOf(dt, column...), storeOf(dt, row...), storeOf(dt, make([]impl.Cell, n*m)...))
		r := checkCall(t, arrayCall{name: "MatMul", heap: h, a: dense(0, 0, n, 1), b: dense(1, 0, 1, m), out: dense(2, 0, n, m)})
		for i, x := range column {
			for k, y := range row {
				if got, want := r.Heap.Stores[2].Cells[i*len(row)+k], impl.Apply(3, dt, x, y).Cell; !sameCell(got, want) {
					t.Errorf("dtype %d: %v and %v: %v, want %v", dt, x, y, got, want)
				}
			}
		}
	}
}

// P14
func TestProductsWithNothingBetween(t *testing.T) {
	for _, dt := range dtypes {
		for _, out := range dtypes {
			last := samples(out)[len(samples(out))-1]
			h := heapOf(storeOf(dt), storeOf(out, slices.Repeat([]impl.Cell{last}, 7)...))
			c := arrayCall{name: "MatMul", heap: h, a: dense(0, 0, 2, 0), b: dense(0, 0, 0, 3), out: dense(1, 0, 2, 3)}
			r := checkCall(t, c)
			if r.Code != codeWhere(kinds[dt] > kinds[out], 10) {
				t.Errorf("%d into %d: code %d", dt, out, r.Code)
			}
			if r.Code == 0 && !sameCells(r.Heap.Stores[1].Cells, append(make([]impl.Cell, 6), last)) {
				t.Errorf("%d into %d: %v", dt, out, r.Heap.Stores[1])
			}
		}
	}
	h := heapOf(countingStore(6, 4096), storeOf(1))
	for _, shape := range [][3]int64{{0, 0, 0}, {0, 4096, 1}, {4096, 0, 1}, {1, 0, 4096}, {64, 0, 64}, {4096, 0, 0}, {0, 0, 4096}, {1, 4096, 0}, {0, 4096, 0}} {
		c := arrayCall{name: "MatMul", heap: h, a: dense(0, 0, shape[0], shape[1]), b: dense(0, 0, shape[1], shape[2]), out: dense(0, 0, shape[0], shape[2])}
		if r := checkCall(t, c); r.Code != 0 {
			t.Errorf("%v: code %d", shape, r.Code)
		}
	}
}

// P14: one row by one column, so that the order of the additions is to be seen.
func TestProductsByName(t *testing.T) {
	cases := []struct {
		name string
		a    impl.Store
		b    impl.Store
		want impl.Store
	}{
		{"from the first on", floatStore(8, 1e16, 1, 1, -1e16), floatStore(8, 1, 1, 1, 1), floatStore(8, 0)},
		{"small ones first", floatStore(8, 1, 1, 1e16, -1e16), floatStore(8, 1, 1, 1, 1), floatStore(8, 2)},
		{"each product is rounded", floatStore(8, 1+1.0/(1<<30), -1), floatStore(8, 1+1.0/(1<<30), 1+1.0/(1<<29)), floatStore(8, 0)},
		{"zeros below 0", floatStore(8, minusZero, 0), floatStore(8, 1, -1), floatStore(8, minusZero)},
		{"a zero below 0 alone", floatStore(8, minusZero), floatStore(8, 5), floatStore(8, minusZero)},
		{"zeros of both signs", floatStore(8, minusZero, 0), floatStore(8, 1, 1), floatStore(8, 0)},
		{"infinity less infinity", floatStore(8, inf, inf, 1), floatStore(8, 1, -1, 1), floatStore(8, nan)},
		{"infinity by 0", floatStore(8, inf, 1), floatStore(8, 0, 1), floatStore(8, nan)},
		{"I8 wraps in each product", integerStore(2, 100, 1), integerStore(2, 100, 1), integerStore(2, 17)},
		{"I8 and U8 meet in I16", integerStore(2, -128, -128), integerStore(3, 255, 255), integerStore(4, 256)},
		{"truth values", integerStore(1, 1, 1, 0), integerStore(1, 1, 1, 1), integerStore(1, 1)},
		{"truth values, none", integerStore(1, 1, 0), integerStore(1, 0, 1), integerStore(1, 0)},
		{"truth values with I8", integerStore(1, 1, 1, 0), integerStore(2, 100, 100, 1), integerStore(2, -56)},
		{"single precision", floatStore(7, 16777216, 1, 1), floatStore(7, 1, 1, 1), floatStore(7, 16777216)},
		{"I32 and F32 meet in F64", integerStore(5, 16777216, 1), floatStore(7, 1, 1), floatStore(8, 16777217)},
		{"complex", storeOf(9, complexCell(0, 1), complexCell(1, 1)), storeOf(9, complexCell(0, 1), complexCell(1, -1)), storeOf(9, complexCell(1, 0))},
	}
	for _, c := range cases {
		n := int64(len(c.a.Cells))
		h := heapOf(c.a, c.b, storeOf(c.want.DType, slices.Repeat(samples(c.want.DType)[:1], 1)...))
		checkStore(t, c.name, impl.MatMul(h, dense(0, 0, 1, n), dense(1, 0, n, 1), dense(2, 0, 1, 1)), 2, c.want)
	}
	h := heapOf(integerStore(5, 1, 2, 3, 4, 5, 6), integerStore(5, 7, 8, 9, 10, 11, 12), integerStore(6, 0, 0, 0, 0))
	checkStore(t, "two by three by two", impl.MatMul(h, dense(0, 0, 2, 3), dense(1, 0, 3, 2), dense(2, 0, 2, 2)), 2, integerStore(6, 58, 64, 139, 154))
	checkStore(t, "out transposed", impl.MatMul(h, dense(0, 0, 2, 3), dense(1, 0, 3, 2), arrayOf(2, viewOf(list(2, 2), list(1, 2), 0))), 2, integerStore(6, 58, 139, 64, 154))
	checkStore(t, "with itself transposed", impl.MatMul(h, dense(0, 0, 2, 3), arrayOf(0, viewOf(list(3, 2), list(1, 3), 0)), dense(0, 2, 2, 2)), 0, integerStore(5, 1, 2, 14, 32, 32, 77))
}

// P14
func TestShapesOfProducts(t *testing.T) {
	h := heapOf(countingStore(6, 16), countingStore(6, 16), countingStore(6, 16))
	var shapes [][]int64
	for dims := range 3 {
		shapes = append(shapes, listsOf(dims, 0, 3)...)
	}
	shapes = append(shapes, list(1, 1, 1), list(2, 2, 1), list(1, 2, 2), list(1, 1, 1, 1), list(2, 2, 2))
	good := 0
	for _, a := range shapes {
		for _, b := range shapes {
			for _, out := range shapes {
				good += int(1 - min(1, checkCall(t, arrayCall{name: "MatMul", heap: h, a: dense(0, 0, a...), b: dense(1, 0, b...), out: dense(2, 0, out...)}).Code))
			}
		}
	}
	if good != 4*4*4 {
		t.Errorf("%d shapes were good", good)
	}
}

// P9, P14
func TestProductsThatSharePlacesWithOut(t *testing.T) {
	s := countingStore(5, 40)
	var squares []impl.View
	for _, v := range sharedInputs() {
		if slices.Equal(v.Shape, list(4, 4)) {
			squares = append(squares, v)
		}
	}
	for _, a := range squares {
		for _, b := range squares {
			for _, out := range sharedOuts() {
				checkOwnStores(t, arrayCall{name: "MatMul", heap: heapOf(s), a: arrayOf(0, a), b: arrayOf(0, b), out: arrayOf(0, out)})
			}
		}
	}
}

// P14
func TestLargestProducts(t *testing.T) {
	d := draws(9)
	h := heapOf(drawnSquare(&d), drawnSquare(&d), floatStore(8, 0))
	checkCall(t, arrayCall{name: "MatMul", heap: h, a: dense(0, 0, 64, 64), b: dense(1, 0, 64, 64), out: dense(0, 0, 64, 64)})
	checkCall(t, arrayCall{name: "MatMul", heap: h, a: dense(0, 0, 1, 4096), b: dense(1, 0, 4096, 1), out: dense(2, 0, 1, 1)})
	checkCall(t, arrayCall{name: "MatMul", heap: h, a: dense(0, 0, 4096, 1), b: dense(1, 0, 1, 1), out: dense(1, 0, 4096, 1)})
	checkCall(t, arrayCall{name: "MatMul", heap: h, a: dense(0, 0, 4096, 1), b: dense(1, 0, 1, 2), out: dense(1, 0, 4096, 1)})
}

// drawnSquare has 64 by 64 floats of all sizes.
func drawnSquare(d *draws) impl.Store {
	s := impl.Store{DType: 8}
	for range 4096 {
		s.Cells = append(s.Cells, floatCell(float64(d.between(-1<<40, 1<<40))/float64(d.between(1, 1<<20))))
	}
	return s
}
