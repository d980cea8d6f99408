package tests

import (
	"math"
	"slices"
	"testing"

	"loop.example/s16388/impl"
)

// goodIndexes are all indexes of n elements, those that count from the end too.
func goodIndexes(n int64) []int64 {
	var out []int64
	for k := -n; k < n; k++ {
		out = append(out, k)
	}
	return out
}

// P11: every list of up to three indexes, from just below the range to just above.
func TestTakeAndPutOfAllShortIndexes(t *testing.T) {
	h := heapOf(countingStore(5, 12), integerStore(6, 70, 71, 72, 73, 74, 75))
	views := []impl.View{viewOf(list(0), list(1), 4096), viewOf(nil, nil, 11), viewOf(list(2), list(-5), 9), viewOf(list(3), list(4), 1), viewOf(list(2, 2), list(1, 6), 3)}
	for _, v := range views {
		n := int64(len(wantedPlaces(v)))
		for length := range int64(4) {
			for _, index := range listsOf(int(length), -n-1, n) {
				checkCall(t, arrayCall{name: "Take", heap: h, a: arrayOf(0, v), index: index, out: dense(1, 1, length)})
				checkCall(t, arrayCall{name: "Take", heap: h, a: arrayOf(0, v), index: index, out: dense(0, 2, length)})
				checkCall(t, arrayCall{name: "Put", heap: h, a: dense(1, 1, length), index: index, out: arrayOf(0, v)})
				checkCall(t, arrayCall{name: "Put", heap: h, a: dense(1, 5), index: index, out: arrayOf(0, v)})
				checkCall(t, arrayCall{name: "Put", heap: h, a: dense(0, 2, length), index: index, out: arrayOf(0, v)})
			}
		}
	}
}

// P11: what was put is taken again, where no element is named twice and the dtypes are the same.
func TestTakeAfterPut(t *testing.T) {
	d := draws(19)
	for range 600 {
		dt := d.between(1, 9)
		cells := someSamples(dt, 40)
		h := heapOf(storeOf(dt, cells...), storeOf(dt, pick(drawnIndexes(&d, 40, 40), cells)...), storeOf(dt, make([]impl.Cell, 40)...))
		shape := drawnShapes[d.below(int64(len(drawnShapes)))]
		target := arrayOf(0, viewOf(shape, drawnOrderStrides(shape), 1))
		n := int64(len(wantedPlaces(target.View)))
		var index []int64
		for k := range n {
			if d.below(3) > 0 {
				index = slices.Insert(index, int(d.below(int64(len(index)+1))), k-n*d.below(2))
			}
		}
		values := drawnArray(&d, h, d.between(0, 1), list(int64(len(index))))
		put := impl.Put(h, target, index, values)
		if put.Code != 0 {
			t.Errorf("Put of %v: code %d", index, put.Code)
			continue
		}
		taken := impl.Take(put.Heap, target, index, dense(2, 0, int64(len(index))))
		if taken.Code != 0 || !sameCells(impl.Read(taken.Heap, dense(2, 0, int64(len(index)))), impl.Read(h, values)) {
			t.Errorf("dtype %d, %v by %v: %v, want %v", dt, target, index, taken, impl.Read(h, values))
		}
	}
}

// drawnOrderStrides lays out a view from the first axis to the last, so that it is writable and not in row-major order.
func drawnOrderStrides(shape []int64) []int64 {
	strides := make([]int64, len(shape))
	run := int64(1)
	for i, n := range shape {
		strides[i] = run
		run *= max(n, 1)
	}
	return strides
}

// P11
func TestTakeAndPutEdges(t *testing.T) {
	six := heapOf(integerStore(5, 1, 2, 3, 4, 5, 6), integerStore(6, 0, 0, 0, 0), integerStore(2, 7, 8, 9))
	turned := arrayOf(0, viewOf(list(3, 2), list(1, 3), 0))
	checkStore(t, "in row-major order of the view", impl.Take(six, turned, list(1, -1, 0, -6), dense(1, 0, 4)), 1, integerStore(6, 4, 6, 1, 1))
	checkStore(t, "one element many times", impl.Take(six, dense(0, 2), list(0, -1, 0, -1), dense(1, 0, 4)), 1, integerStore(6, 3, 3, 3, 3))
	checkStore(t, "turned round in its own store", impl.Take(six, dense(0, 0, 6), list(5, 4, 3, 2, 1, 0), dense(0, 0, 6)), 0, integerStore(5, 6, 5, 4, 3, 2, 1))
	checkStore(t, "nothing", impl.Take(six, dense(0, 0, 6), nil, dense(0, 9, 0)), 0, six.Stores[0])
	checkStore(t, "nothing of nothing", impl.Take(six, dense(0, 0, 0), nil, dense(0, 0, 0)), 0, six.Stores[0])
	checkStore(t, "into a shorter dtype", impl.Take(heapOf(integerStore(6, 300), integerStore(3, 0)), dense(0, 0), list(0), dense(1, 0, 1)), 1, integerStore(3, 44))
	checkStore(t, "the last of the repeated stays", impl.Put(six, dense(0, 0, 6), list(0, -6, 0), dense(2, 0, 3)), 0, integerStore(5, 9, 2, 3, 4, 5, 6))
	checkStore(t, "one value for all", impl.Put(six, turned, list(1, -1), dense(2, 2)), 0, integerStore(5, 1, 2, 3, 9, 5, 9))
	checkStore(t, "one value of shape (1, 1)", impl.Put(six, turned, list(0, 1, 0), dense(2, 0, 1, 1)), 0, integerStore(5, 7, 2, 3, 7, 5, 6))
	checkStore(t, "one value and no index", impl.Put(six, dense(0, 0, 6), nil, dense(2, 0)), 0, six.Stores[0])
	checkStore(t, "no value and no index", impl.Put(six, dense(0, 0, 6), list(), dense(2, 0, 3, 0)), 0, six.Stores[0])
	checkStore(t, "values of any shape", impl.Put(six, dense(0, 0, 6), list(5, 4, 3, 2), arrayOf(0, viewOf(list(2, 2), list(1, 2), 0))), 0, integerStore(5, 1, 2, 4, 2, 3, 1))
	checkStore(t, "values that are written on the way", impl.Put(six, dense(0, 0, 6), list(1, 2, 3, 4, 5, 0), dense(0, 0, 6)), 0, integerStore(5, 6, 1, 2, 3, 4, 5))
	checkStore(t, "the one value is written on the way", impl.Put(heapOf(integerStore(1, 1, 0, 1)), dense(0, 0, 3), list(0, 1, 2), dense(0, 1)), 0, integerStore(1, 0, 0, 0))
	many := picksOf(5000, func(i int) int64 { return int64(i % 6) })
	checkStore(t, "one value and more indexes than an array has elements", impl.Put(six, dense(0, 0, 6), many, dense(2, 0)), 0, integerStore(5, 7, 7, 7, 7, 7, 7))
}

// P11
func TestTakeAndPutCodes(t *testing.T) {
	h := heapOf(integerStore(5, 1, 2, 3, 4, 5, 6), integerStore(6, 0, 0, 0, 0), floatStore(8, 1, 2))
	cases := []struct {
		name string
		got  impl.HeapResult
		want int64
	}{
		{"n", impl.Take(h, dense(0, 0, 6), list(6), dense(1, 0, 1)), 8},
		{"-n-1", impl.Take(h, dense(0, 0, 6), list(-7), dense(1, 0, 1)), 8},
		{"the last index of three", impl.Take(h, dense(0, 0, 6), list(0, 1, 6), dense(1, 0, 3)), 8},
		{"the largest", impl.Take(h, dense(0, 0, 6), list(math.MaxInt64), dense(1, 0, 1)), 8},
		{"the smallest", impl.Take(h, dense(0, 0, 6), list(math.MinInt64), dense(1, 0, 1)), 8},
		{"of no elements, 0", impl.Take(h, dense(0, 0, 0), list(0), dense(1, 0, 1)), 8},
		{"of no elements, -1", impl.Take(h, dense(0, 0, 0), list(-1), dense(1, 0, 1)), 8},
		{"out too long", impl.Take(h, dense(0, 0, 6), list(0), dense(1, 0, 2)), 6},
		{"out too short", impl.Take(h, dense(0, 0, 6), list(0, 0), dense(1, 0, 1)), 6},
		{"out without an axis", impl.Take(h, dense(0, 0, 6), list(0), dense(1, 0)), 6},
		{"out with two axes", impl.Take(h, dense(0, 0, 6), list(0, 0), dense(1, 0, 1, 2)), 6},
		{"out with no elements and two axes", impl.Take(h, dense(0, 0, 6), nil, dense(1, 0, 0, 1)), 6},
		{"out without an axis for no index", impl.Take(h, dense(0, 0, 6), nil, dense(1, 0)), 6},
		{"more indexes than any out has elements", impl.Take(h, dense(0, 0, 6), make([]int64, 4097), dense(1, 0, 4)), 6},
		{"shape ahead of index", impl.Take(h, dense(0, 0, 6), list(6), dense(1, 0, 2)), 6},
		{"take into a smaller kind", impl.Take(h, dense(2, 0, 2), list(0), dense(1, 0, 1)), 10},
		{"take into one place twice", impl.Take(h, dense(2, 0, 2), list(0, 0), arrayOf(1, viewOf(list(2), list(0), 0))), 9},
		{"put at n", impl.Put(h, dense(0, 0, 6), list(6), dense(1, 0)), 8},
		{"put at -n-1", impl.Put(h, dense(0, 0, 6), list(-7), dense(1, 0)), 8},
		{"put at the last index of three", impl.Put(h, dense(0, 0, 6), list(0, 1, -7), dense(1, 0, 3)), 8},
		{"put at the largest", impl.Put(h, dense(0, 0, 6), list(math.MaxInt64), dense(1, 0)), 8},
		{"put at the smallest", impl.Put(h, dense(0, 0, 6), list(math.MinInt64), dense(1, 0)), 8},
		{"put into no elements", impl.Put(h, dense(0, 0, 0), list(0), dense(1, 0)), 8},
		{"too few values", impl.Put(h, dense(0, 0, 6), list(0, 1, 2), dense(1, 0, 2)), 6},
		{"too many values", impl.Put(h, dense(0, 0, 6), list(0, 1), dense(1, 0, 3)), 6},
		{"two values for one index", impl.Put(h, dense(0, 0, 6), list(0), dense(1, 0, 2)), 6},
		{"no value for one index", impl.Put(h, dense(0, 0, 6), list(0), dense(1, 0, 0)), 6},
		{"values and no index", impl.Put(h, dense(0, 0, 6), nil, dense(1, 0, 2)), 6},
		{"put: shape ahead of index", impl.Put(h, dense(0, 0, 6), list(6, 0), dense(1, 0, 3)), 6},
		{"put into a smaller kind", impl.Put(h, dense(0, 0, 6), list(0), dense(2, 0)), 10},
		{"put nothing into a smaller kind", impl.Put(h, dense(0, 0, 6), nil, dense(2, 0)), 10},
		{"put into a target with elements on one place", impl.Put(h, arrayOf(0, viewOf(list(6), list(0), 0)), list(0), dense(2, 0)), 9},
		{"put nothing into a target with elements on one place", impl.Put(h, arrayOf(0, viewOf(list(6), list(0), 0)), nil, dense(1, 0)), 9},
	}
	for _, c := range cases {
		if c.got.Code != c.want || len(c.got.Heap.Stores) != 0 {
			t.Errorf("%s: %v, want the code %d", c.name, c.got, c.want)
		}
	}
}

// P11: both ends of the range, for the longest array too.
func TestTakeOfAllGoodIndexes(t *testing.T) {
	h := heapOf(countingStore(6, 4096), storeOf(6, make([]impl.Cell, 4096)...))
	for _, n := range list(1, 2, 5, 2048) {
		index := goodIndexes(n)
		got := impl.Read(impl.Take(h, dense(0, 0, n), index, dense(1, 0, 2*n)).Heap, dense(1, 0, 2*n))
		for i, k := range index {
			if k < 0 {
				k += n
			}
			if len(got) != len(index) || got[i] != integerCell(k) {
				t.Fatalf("%d elements: index %d", n, index[i])
			}
		}
	}
	for _, k := range list(-4096, -1, 0, 4095) {
		checkCall(t, arrayCall{name: "Put", heap: h, a: dense(1, 0), index: list(k), out: dense(0, 0, 16, 16, 16)})
	}
}
