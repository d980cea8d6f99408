package tests

import (
	"slices"
	"testing"

	"loop.example/s16388/impl"
)

// ownStores moves every input into a copy of its store, behind all other stores.
func (c arrayCall) ownStores() arrayCall {
	c.heap = copyOfHeap(c.heap)
	for _, a := range c.inputs() {
		s := c.heap.Stores[a.Store]
		a.Store = int64(len(c.heap.Stores))
		c.heap.Stores = append(c.heap.Stores, storeOf(s.DType, slices.Clone(s.Cells)...))
	}
	return c
}

func checkOwnStores(t *testing.T, c arrayCall) {
	t.Helper()
	got := checkCall(t, c)
	apart := c.ownStores().run()
	if got.Code != 0 || apart.Code != 0 {
		t.Errorf("%+v: codes %d and %d", c, got.Code, apart.Code)
		return
	}
	if !sameCells(got.Heap.Stores[c.out.Store].Cells, apart.Heap.Stores[c.out.Store].Cells) {
		t.Errorf("%+v: %v, with inputs apart %v", c, got.Heap.Stores[c.out.Store].Cells, apart.Heap.Stores[c.out.Store].Cells)
	}
}

// sharedOuts are views of 16 elements in a store of 40; sharedInputs lie among their places in every way and broadcast to them.
func sharedOuts() []impl.View {
	square := list(4, 4)
	return []impl.View{
		viewOf(square, list(4, 1), 0), viewOf(square, list(4, 1), 1), viewOf(square, list(1, 4), 0), viewOf(square, list(-4, -1), 15), viewOf(square, list(-4, 1), 12),
		viewOf(square, list(8, 2), 0), viewOf(square, list(9, 1), 3), viewOf(square, list(-1, 4), 3),
	}
}

func sharedInputs() []impl.View {
	square := list(4, 4)
	return append(sharedOuts(),
		viewOf(square, list(4, 1), 2), viewOf(square, list(1, 1), 0), viewOf(square, list(0, 1), 4), viewOf(square, list(1, 0), 5), viewOf(square, list(0, 0), 6), viewOf(list(4), list(1), 0), viewOf(list(4), list(1), 5),
		viewOf(list(4), list(-1), 15), viewOf(list(4), list(5), 0), viewOf(list(4, 1), list(4, 1), 3), viewOf(list(1, 4), list(7, 4), 1), viewOf(list(1), list(1), 5), viewOf(nil, nil, 0), viewOf(nil, nil, 15), viewOf(nil, nil, 39))
}

// P9
func TestTwoInputsThatSharePlacesWithOut(t *testing.T) {
	for _, out := range sharedOuts() {
		for i, a := range sharedInputs() {
			for k, b := range sharedInputs() {
				c := arrayCall{name: "Elementwise", heap: heapOf(countingStore(5, 40)), op: int64(2 + (i+k)%2), a: arrayOf(0, a), b: arrayOf(0, b), out: arrayOf(0, out), tile: 3, workers: 3, picks: list(2, 1, 0, 5, -1)}
				// A scalar with a scalar, or a row with a row, do not make up the shape of out.
				if wanted := wantedBroadcastShape(a.Shape, b.Shape); !slices.Equal(wanted.Shape, out.Shape) {
					checkCall(t, c)
					continue
				}
				checkOwnStores(t, c)
				c.name = "Tiled"
				checkOwnStores(t, c)
			}
		}
	}
}

// P9
func TestOneInputThatSharesPlacesWithOut(t *testing.T) {
	for _, out := range sharedOuts() {
		for _, a := range sharedInputs() {
			checkOwnStores(t, arrayCall{name: "Unary", heap: heapOf(countingStore(5, 40)), op: 1, a: arrayOf(0, a), out: arrayOf(0, out)})
		}
	}
}

// P9: cond too lies in the store that is written, so all of it are truth values.
func TestThreeInputsThatSharePlacesWithOut(t *testing.T) {
	s := storeOf(1, pick(list(0, 1, 1, 0, 1, 0, 0, 1, 1, 1, 0, 1, 0, 0, 1, 0, 1, 1, 1, 0, 0, 0, 1, 0, 1, 1, 0, 0, 1, 0, 1, 1, 0, 1, 0, 1, 0, 0, 1, 1), samples(1))...)
	inputs := sharedInputs()
	for i, out := range sharedOuts() {
		for k, cond := range inputs {
			for n, a := range inputs {
				b := inputs[(i+k+3*n)%len(inputs)]
				c := arrayCall{name: "Where", heap: heapOf(s), cond: arrayOf(0, cond), a: arrayOf(0, a), b: arrayOf(0, b), out: arrayOf(0, out)}
				whole := wantedBroadcastShape(wantedBroadcastShape(a.Shape, b.Shape).Shape, cond.Shape)
				if !slices.Equal(whole.Shape, out.Shape) {
					checkCall(t, c)
					continue
				}
				checkOwnStores(t, c)
			}
		}
	}
}

func checkStore(t *testing.T, name string, r impl.HeapResult, store int, want impl.Store) {
	t.Helper()
	if r.Code != 0 || len(r.Heap.Stores) <= store {
		t.Errorf("%s: %v", name, r)
		return
	}
	if got := r.Heap.Stores[store]; got.DType != want.DType || !sameCells(got.Cells, want.Cells) {
		t.Errorf("%s: %v, want %v", name, got, want)
	}
}

// P9
func TestElementwiseEdges(t *testing.T) {
	six := heapOf(integerStore(5, 1, 2, 3, 4, 5, 6))
	back := arrayOf(0, viewOf(list(6), list(-1), 5))
	turned := arrayOf(0, viewOf(list(2, 2), list(1, 2), 0))
	checkStore(t, "moved on by one", impl.Elementwise(six, 1, dense(0, 0, 5), dense(0, 0, 5), dense(0, 1, 5)), 0, integerStore(5, 1, 2, 4, 6, 8, 10))
	checkStore(t, "moved back by one", impl.Elementwise(six, 1, dense(0, 1, 5), dense(0, 1, 5), dense(0, 0, 5)), 0, integerStore(5, 4, 6, 8, 10, 12, 6))
	checkStore(t, "backward", impl.Elementwise(six, 2, back, dense(0, 0, 6), dense(0, 0, 6)), 0, integerStore(5, 5, 3, 1, -1, -3, -5))
	checkStore(t, "onto the one that is backward", impl.Elementwise(six, 2, dense(0, 0, 6), dense(0, 0), back), 0, integerStore(5, 5, 4, 3, 2, 1, 0))
	checkStore(t, "transposed", impl.Elementwise(six, 3, turned, dense(0, 0, 2, 2), dense(0, 0, 2, 2)), 0, integerStore(5, 1, 6, 6, 16, 5, 6))
	checkStore(t, "a row of out for all rows", impl.Elementwise(six, 1, dense(0, 0, 2, 3), dense(0, 0, 3), dense(0, 0, 2, 3)), 0, integerStore(5, 2, 4, 6, 5, 7, 9))
	checkStore(t, "an element of out for all", impl.Elementwise(six, 3, dense(0, 0, 6), dense(0, 1), dense(0, 0, 6)), 0, integerStore(5, 2, 4, 6, 8, 10, 12))
	checkStore(t, "wrap in the common dtype, not in that of out", impl.Elementwise(heapOf(integerStore(2, 127), integerStore(6, 0)), 1, dense(0, 0), dense(0, 0), dense(1, 0)), 1, integerStore(6, -2))
	checkStore(t, "the cut to out", impl.Elementwise(heapOf(integerStore(6, 200), integerStore(2, 0)), 1, dense(0, 0), dense(0, 0), dense(1, 0)), 1, integerStore(2, -112))
	checkStore(t, "I8 and U8 meet in I16", impl.Elementwise(heapOf(integerStore(2, -1), integerStore(3, 255), integerStore(6, 0)), 3, dense(0, 0), dense(1, 0), dense(2, 0)), 2, integerStore(6, -255))
	checkStore(t, "I32 and F32 meet in F64", impl.Elementwise(heapOf(integerStore(5, 16777217), floatStore(7, 0.5), floatStore(8, 0)), 1, dense(0, 0), dense(1, 0), dense(2, 0)), 2, floatStore(8, 16777217.5))
	checkStore(t, "I64 is rounded ahead of the comparison", impl.Elementwise(heapOf(integerStore(6, 1<<53+1), floatStore(8, 1<<53), integerStore(1, 0)), 8, dense(0, 0), dense(1, 0), dense(2, 0)), 2, integerStore(1, 1))
	checkStore(t, "truth values into complex ones", impl.Elementwise(heapOf(integerStore(6, 1, 2), storeOf(9, complexCell(5, 5), complexCell(5, 5))), 7, dense(0, 0, 2), dense(0, 1), dense(1, 0, 2)), 1, storeOf(9, complexCell(1, 0), complexCell(0, 0)))
	checkStore(t, "out of I8 from a comparison", impl.Elementwise(heapOf(floatStore(8, nan, 1), integerStore(2, 9, 9)), 8, dense(0, 0, 2), dense(0, 0, 2), dense(1, 0, 2)), 1, integerStore(2, 0, 1))
	checkStore(t, "no elements", impl.Elementwise(six, 4, dense(0, 4096, 0), dense(0, 3), dense(0, 17, 0)), 0, six.Stores[0])
	checkStore(t, "rounded to single, in double before", impl.Elementwise(heapOf(floatStore(8, 1, 1.0/(1<<30)), floatStore(7, 0)), 1, dense(0, 0), dense(0, 1), dense(1, 0)), 1, floatStore(7, 1))
	checkStore(t, "Unary into a wider dtype", impl.Unary(heapOf(integerStore(2, -128), integerStore(6, 0)), 3, dense(0, 0), dense(1, 0)), 1, integerStore(6, -128))
	checkStore(t, "Unary of U8 into I16", impl.Unary(heapOf(integerStore(3, 1), integerStore(4, 0)), 1, dense(0, 0), dense(1, 0)), 1, integerStore(4, 255))
	checkStore(t, "Where by way of the common dtype", impl.Where(heapOf(integerStore(1, 1, 0), integerStore(6, 1<<60+1<<36+1), floatStore(8, 0.5), floatStore(7, 0, 0)), dense(0, 0, 2), dense(1, 0), dense(2, 0), dense(3, 0, 2)), 3, floatStore(7, 1<<60, 0.5))
}

// smallShapes has all shapes with lengths 0..3 and at most three axes.
func smallShapes() [][]int64 {
	var out [][]int64
	for dims := range 4 {
		out = append(out, listsOf(dims, 0, 3)...)
	}
	return out
}

// P9: every pair of small shapes, onto the shape that they make and onto others; out is never stretched.
func TestInputsBroadcastInEveryWay(t *testing.T) {
	h := heapOf(countingStore(5, 27), countingStore(4, 27), countingStore(8, 0), storeOf(6, slices.Repeat([]impl.Cell{integerCell(-1)}, 81)...))
	good := 0
	shapes := smallShapes()
	for i, a := range shapes {
		for k, b := range shapes {
			joined := wantedBroadcastShape(a, b).Shape
			for _, out := range [][]int64{joined, shapes[(i+k)%len(shapes)], append(list(1), joined...), append(list(2), joined...)} {
				c := arrayCall{name: "Elementwise", heap: h, op: 2, a: dense(0, 0, a...), b: dense(1, 0, b...), out: dense(3, 0, out...)}
				if len(out) <= 4 && checkCall(t, c).Code == 0 {
					good++
				}
			}
		}
	}
	if good < 1000 {
		t.Errorf("only %d calls were good", good)
	}
}

// P9
func TestUnaryBroadcastsInEveryWay(t *testing.T) {
	h := heapOf(countingStore(5, 27), storeOf(6, slices.Repeat([]impl.Cell{integerCell(-1)}, 27)...))
	for _, a := range smallShapes() {
		for _, out := range smallShapes() {
			checkCall(t, arrayCall{name: "Unary", heap: h, op: 2, a: dense(0, 0, a...), out: dense(1, 0, out...)})
		}
	}
}

// P9
func TestWhereBroadcastsInEveryWay(t *testing.T) {
	truths := integerStore(1, 1, 0, 0, 1, 1, 1, 0, 1, 0, 0, 1, 0, 1, 1, 0, 0, 0, 1, 0, 1, 1, 0, 1, 0, 1, 0, 0)
	h := heapOf(truths, countingStore(5, 27), countingStore(4, 27), storeOf(6, slices.Repeat([]impl.Cell{integerCell(-1)}, 81)...))
	shapes := slices.DeleteFunc(smallShapes(), func(s []int64) bool { return len(s) > 2 })
	for _, cond := range shapes {
		for _, a := range shapes {
			for k, b := range shapes {
				whole := wantedBroadcastShape(wantedBroadcastShape(a, b).Shape, cond).Shape
				for _, out := range [][]int64{whole, shapes[k], append(list(1), whole...)} {
					checkCall(t, arrayCall{name: "Where", heap: h, cond: dense(0, 0, cond...), a: dense(1, 0, a...), b: dense(2, 0, b...), out: dense(3, 0, out...)})
				}
			}
		}
	}
}

// P9: the shape of a and b is not good, though with the length 0 of cond the whole one would be.
func TestWhereJoinsItsInputsFirst(t *testing.T) {
	h := heapOf(integerStore(1, 1), countingStore(6, 4096))
	c := arrayCall{name: "Where", heap: h, cond: dense(0, 0, 1, 1, 0), a: dense(1, 0, 4096, 1, 1), b: dense(1, 0, 1, 2, 1), out: dense(1, 0, 4096, 2, 0)}
	if got := checkCall(t, c); got.Code != 6 {
		t.Errorf("code %d", got.Code)
	}
	c.b = dense(1, 0, 1, 1, 1)
	c.out = dense(1, 0, 4096, 1, 0)
	if got := checkCall(t, c); got.Code != 0 {
		t.Errorf("code %d", got.Code)
	}
}

// P9
func TestElementwiseOfTheLargestArrays(t *testing.T) {
	h := heapOf(countingStore(6, 4096), countingStore(5, 64))
	back := arrayOf(0, viewOf(list(64, 64), list(-64, -1), 4095))
	checkOwnStores(t, arrayCall{name: "Elementwise", heap: h, op: 3, a: back, b: dense(1, 0, 64, 1), out: dense(0, 0, 64, 64)})
	checkOwnStores(t, arrayCall{name: "Elementwise", heap: h, op: 1, a: dense(1, 0, 64), b: dense(1, 0, 64, 1), out: arrayOf(0, viewOf(list(64, 64), list(1, 64), 0))})
	c := arrayCall{name: "Elementwise", heap: h, op: 1, a: dense(0, 0, 4096, 1), b: dense(1, 0, 2), out: dense(0, 0, 4096)}
	if got := checkCall(t, c); got.Code != 6 {
		t.Errorf("code %d", got.Code)
	}
}

// dtypeHeap has 48 cells of each dtype, those of dtype dt in store dt-1, and again in store dt+8 in another order.
func dtypeHeap() impl.Heap {
	var h impl.Heap
	for range 2 {
		for _, dt := range dtypes {
			h.Stores = append(h.Stores, storeOf(dt, someSamples(dt, 48)...))
		}
	}
	for _, s := range h.Stores[9:] {
		given := slices.Clone(s.Cells)
		for i := range s.Cells {
			s.Cells[i] = given[(i*31+7)%48]
		}
	}
	return h
}

// P9: every pair of dtypes, every dtype of out and every operation.
func TestEveryPairOfDTypes(t *testing.T) {
	h := dtypeHeap()
	good := map[string]int{}
	for _, a := range dtypes {
		for _, b := range dtypes {
			for _, out := range dtypes {
				c := arrayCall{heap: h, cond: dense(0, 0, 48), a: dense(a-1, 0, 48), b: dense(b+8, 0, 48), out: dense(out-1, 0, 48), index: list(0, 47, -1, -48, 3, 3)}
				for op := int64(1); op <= 10; op++ {
					c.name, c.op = "Elementwise", op
					good[c.name] += int(1 - min(1, checkCall(t, c).Code))
				}
				for op := int64(1); op <= 4; op++ {
					c.name, c.op = "Unary", op
					good[c.name] += int(1 - min(1, checkCall(t, c).Code))
				}
				c.name = "Where"
				good[c.name] += int(1 - min(1, checkCall(t, c).Code))
				c.name, c.out.View = "Take", dense(0, 2, 6).View
				good[c.name] += int(1 - min(1, checkCall(t, c).Code))
				c.name, c.a.View, c.out.View = "Put", dense(0, 5, 6).View, dense(0, 0, 48).View
				good[c.name] += int(1 - min(1, checkCall(t, c).Code))
			}
		}
	}
	for _, name := range []string{"Elementwise", "Unary", "Where", "Take", "Put"} {
		if good[name] < 300 {
			t.Errorf("%s: only %d calls were good", name, good[name])
		}
	}
}
