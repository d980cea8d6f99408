package tests

import (
	"math"
	"slices"
	"testing"

	"loop.example/s16388/impl"
)

// systemOf has the matrix in store 0, the right side in store 1 and room for the unknowns in store 2.
func systemOf(matrix []float64, right []float64) arrayCall {
	n := int64(len(right))
	h := heapOf(floatStore(8, matrix...), floatStore(8, right...), floatStore(8, slices.Repeat([]float64{77}, len(right))...))
	return arrayCall{name: "Solve", heap: h, a: dense(0, 0, n, n), b: dense(1, 0, n), out: dense(2, 0, n)}
}

// P14
func TestSystemsByName(t *testing.T) {
	tiny := math.Ldexp(1, -60)
	cases := []struct {
		name   string
		matrix []float64
		right  []float64
		want   []float64 // nil: code 11
	}{
		{"one", []float64{4}, []float64{10}, []float64{2.5}},
		{"one, below 0", []float64{-4}, []float64{0}, []float64{minusZero}},
		{"one, by infinity", []float64{inf}, []float64{-1}, []float64{minusZero}},
		{"one, infinity by infinity", []float64{inf}, []float64{inf}, []float64{nan}},
		{"one, of NaN", []float64{2}, []float64{nan}, []float64{nan}},
		{"one, by the smallest", []float64{math.SmallestNonzeroFloat64}, []float64{1}, []float64{inf}},
		{"by 0", []float64{0}, []float64{1}, nil},
		{"by 0 below 0", []float64{minusZero}, []float64{1}, nil},
		{"by NaN", []float64{nan}, []float64{1}, nil},
		{"rows exchanged for a 0", []float64{0, 2, 1, 1}, []float64{4, 3}, []float64{1, 2}},
		{"rows exchanged for a smaller one", []float64{tiny, 1, 1, 1}, []float64{1, 2}, []float64{1, 1}},
		{"rows exchanged for a larger one below 0", []float64{tiny, 1, -1, 1}, []float64{1, 0}, []float64{1, 1}},
		{"the largest of three", []float64{1, 0, 0, -2, 1, 0, 4, 0, 1}, []float64{1, 0, 5}, []float64{1, 2, 1}},
		{"singular", []float64{1, 2, 2, 4}, []float64{1, 2}, nil},
		{"a column of zeros of both signs", []float64{0, 1, minusZero, 2}, []float64{1, 2}, nil},
		{"singular at the last", []float64{1, 0, 1, 0, 1, 1, 1, 1, 2}, []float64{1, 2, 3}, nil},
		{"NaN is the first candidate", []float64{nan, 1, 5, 1}, []float64{1, 2}, nil},
		{"NaN is a later candidate", []float64{1, 1, nan, 1}, []float64{1, 2}, nil},
		{"NaN far off", []float64{1, nan, 0, 1}, []float64{1, 2}, nil},
		{"NaN in the last column alone", []float64{1, 0, 0, nan}, []float64{1, 2}, nil},
		{"NaN at the right", []float64{1, 0, 0, 1}, []float64{nan, 2}, []float64{nan, nan}},
		{"NaN at the right, below", []float64{1, 0, 0, 1}, []float64{2, nan}, []float64{nan, nan}},
		{"infinity is the largest", []float64{1, 1, inf, 1}, []float64{3, 1}, []float64{minusZero, 3}},
		{"zeros of both signs at the right", []float64{1, 0, 0, -1}, []float64{minusZero, 0}, []float64{0, minusZero}},
		{"zeros below 0 at the right", []float64{1, 0, 0, 1}, []float64{minusZero, minusZero}, []float64{minusZero, 0}},
		{"none", nil, nil, []float64{}},
	}
	for _, c := range cases {
		got := checkCall(t, systemOf(c.matrix, c.right))
		if c.want != nil {
			checkStore(t, c.name, impl.HeapResult{Code: got.Code, Heap: got.Heap}, 2, floatStore(8, c.want...))
		} else if got.Code != 11 {
			t.Errorf("%s: code %d", c.name, got.Code)
		}
	}
}

// P14: of two candidates with one absolute value the first stays, which the last bits tell.
func TestTiesOfCandidates(t *testing.T) {
	d := draws(41)
	told := 0
	for range 600 {
		x := float64(d.between(1, 99)) / 7
		signs := []float64{1, -1}
		matrix := []float64{x * signs[d.below(2)], 0, 0, x * signs[d.below(2)], 0, 0, x * signs[d.below(2)], 0, 0}
		for i := range matrix {
			if i%3 > 0 {
				matrix[i] = float64(d.between(-99, 99)) / float64(d.between(1, 99))
			}
		}
		c := systemOf(matrix, []float64{float64(d.between(-99, 99)) / 3, float64(d.between(-99, 99)) / 7, 1})
		got := checkCall(t, c)
		// The same system with the first two rows exchanged has the same candidates in another order.
		for j := range 3 {
			matrix[j], matrix[3+j] = matrix[3+j], matrix[j]
		}
		right := c.heap.Stores[1].Cells
		other := checkCall(t, systemOf(matrix, []float64{right[1].F, right[0].F, right[2].F}))
		if got.Code == 0 && other.Code == 0 && !sameCells(got.Heap.Stores[2].Cells, other.Heap.Stores[2].Cells) {
			told++
		}
	}
	if told < 50 {
		t.Errorf("only %d systems tell the order of the candidates", told)
	}
}

func drawnSystem(d *draws, n int64) arrayCall {
	var matrix, right []float64
	for range n * n {
		matrix = append(matrix, float64(d.between(-1<<40, 1<<40))/float64(d.between(1, 1<<20)))
	}
	for range n {
		right = append(right, float64(d.between(-1<<40, 1<<40))/float64(d.between(1, 1<<20)))
	}
	return systemOf(matrix, right)
}

// P14
func TestDrawnSystems(t *testing.T) {
	d := draws(29)
	for _, n := range list(0, 1, 2, 2, 2, 3, 3, 3, 4, 4, 5, 6, 7, 8, 13, 20, 64) {
		c := drawnSystem(&d, n)
		if r := checkCall(t, c); r.Code != 0 {
			t.Errorf("%d unknowns: code %d", n, r.Code)
		}
		if n > 20 || n == 0 {
			continue
		}
		for _, v := range []impl.View{viewOf(list(n, n), list(1, n), 0), viewOf(list(n, n), list(-n, -1), n*n-1), viewOf(list(n, n), list(n, -1), n-1)} {
			c.a.View = v
			if r := checkCall(t, c); r.Code != 0 {
				t.Errorf("%d unknowns, %v: code %d", n, v, r.Code)
			}
		}
		c.out.View = viewOf(list(n), list(-1), n-1)
		c.b.View = viewOf(list(n), list(-1), n-1)
		checkCall(t, c)
		c.b.View = viewOf(list(n), list(0), n-1)
		checkCall(t, c)
	}
}

// P14: every place of small systems with every special number.
func TestSpecialNumbersInSystems(t *testing.T) {
	d := draws(53)
	specials := []float64{nan, inf, -inf, 0, minusZero, math.MaxFloat64, math.SmallestNonzeroFloat64, 1e300, -1e-300, math.Ldexp(1, -1022)}
	seen := map[int64]int{}
	for _, n := range list(1, 2, 3, 4) {
		for place := range n*n + n {
			for _, x := range specials {
				for range 3 {
					c := drawnSystem(&d, n)
					if place < n*n {
						c.heap.Stores[0].Cells[place] = floatCell(x)
					} else {
						c.heap.Stores[1].Cells[place-n*n] = floatCell(x)
					}
					if d.below(2) == 0 {
						c.heap.Stores[0].Cells[d.below(n*n)] = floatCell(specials[d.below(10)])
					}
					seen[checkCall(t, c).Code]++
				}
			}
		}
	}
	if seen[0] < 300 || seen[11] < 100 || len(seen) != 2 {
		t.Errorf("codes %v", seen)
	}
}

// P14: all systems of two unknowns of small numbers, many of them singular or with ties.
func TestAllSmallSystems(t *testing.T) {
	numbers := []float64{0, minusZero, 1, -1, 3}
	for _, picks := range listsOf(4, 0, 4) {
		checkCall(t, systemOf(pick(picks, numbers), []float64{1, minusZero}))
		checkCall(t, systemOf(pick(picks, numbers), []float64{-2, 7}))
	}
}

// P14
func TestDTypesAndShapesOfSystems(t *testing.T) {
	h := dtypeHeap()
	h.Stores[7].Cells = h.Stores[7].Cells[:0:0]
	for i := range 48 {
		h.Stores[7].Cells = append(h.Stores[7].Cells, floatCell(float64(1+i*i*i%11)))
	}
	for _, dt := range dtypes {
		good := arrayCall{name: "Solve", heap: h, a: dense(7, 0, 3, 3), b: dense(7, 9, 3), out: dense(7, 20, 3)}
		for i := range good.arrays() {
			c := good
			c.arrays()[i].Store = dt - 1
			if r := checkCall(t, c); r.Code != codeWhere(dt != 8, 4) {
				t.Errorf("array %d is of dtype %d: code %d", i, dt, r.Code)
			}
		}
	}
	var shapes [][]int64
	for dims := range 3 {
		shapes = append(shapes, listsOf(dims, 0, 3)...)
	}
	shapes = append(shapes, list(1, 1, 1), list(2, 2, 1), list(1, 2, 2), list(1, 1, 1, 1))
	good := 0
	for _, a := range shapes {
		for _, b := range shapes {
			for _, out := range shapes {
				c := arrayCall{name: "Solve", heap: heapOf(h.Stores[7]), a: dense(0, 0, a...), b: dense(0, 20, b...), out: dense(0, 32, out...)}
				good += int(1 - min(1, checkCall(t, c).Code))
			}
		}
	}
	if good != 4 {
		t.Errorf("%d shapes were good", good)
	}
}

// P14: a singular system beside what else may be wrong.
func TestSingularIsTheLastCode(t *testing.T) {
	matrix := []float64{1, 1, 1, 1}
	cases := []struct {
		name  string
		spoil func(c *arrayCall)
		want  int64
	}{
		{"nothing else", func(c *arrayCall) {}, 11},
		{"heap", func(c *arrayCall) { c.heap.Stores[1].Cells[1].I = 1 }, 1},
		{"array", func(c *arrayCall) { c.b.View.Offset = 1 }, 2},
		{"dtype of out", func(c *arrayCall) { c.heap.Stores[2] = floatStore(7, 1, 1) }, 4},
		{"dtype of out, which floats do not go into", func(c *arrayCall) { c.heap.Stores[2] = integerStore(6, 1, 1) }, 4},
		{"dtype of b", func(c *arrayCall) { c.heap.Stores[1] = integerStore(2, 1, 1) }, 4},
		{"shape of out", func(c *arrayCall) { c.out = dense(2, 0, 1) }, 6},
		{"shape of b", func(c *arrayCall) { c.b = dense(1, 0, 2, 1) }, 6},
		{"not writable", func(c *arrayCall) { c.out.View.Strides = list(0) }, 9},
	}
	for _, c := range cases {
		call := systemOf(matrix, []float64{1, 2})
		c.spoil(&call)
		if got := checkCall(t, call); got.Code != c.want {
			t.Errorf("%s: code %d, want %d", c.name, got.Code, c.want)
		}
	}
}

// P9, P14
func TestSystemsThatSharePlacesWithOut(t *testing.T) {
	d := draws(61)
	s := drawnSquare(&d)
	s.Cells = s.Cells[:40]
	lines := []impl.View{viewOf(list(4), list(1), 0), viewOf(list(4), list(-1), 15), viewOf(list(4), list(4), 1), viewOf(list(4), list(5), 0), viewOf(list(4), list(9), 3), viewOf(list(4), list(0), 6)}
	for _, a := range sharedOuts() {
		for _, b := range lines {
			for _, out := range lines[:5] {
				checkOwnStores(t, arrayCall{name: "Solve", heap: heapOf(s), a: arrayOf(0, a), b: arrayOf(0, b), out: arrayOf(0, out)})
			}
		}
	}
}
