package tests

import (
	"math"
	"slices"
	"testing"

	"loop.example/s16388/impl"
)

var sampleLists = map[int64][]impl.Cell{1: samples(1), 2: samples(2), 3: samples(3), 4: samples(4), 5: samples(5), 6: samples(6), 7: samples(7), 8: samples(8), 9: samples(9)}

// someSamples has n cells of the dtype, evenly from all over its samples.
func someSamples(dt int64, n int) []impl.Cell {
	all := sampleLists[dt]
	var out []impl.Cell
	for i := range n {
		out = append(out, all[i*len(all)/n])
	}
	return out
}

func storeOf(dt int64, cells ...impl.Cell) impl.Store {
	return impl.Store{DType: dt, Cells: cells}
}

func integerStore(dt int64, values ...int64) impl.Store {
	s := impl.Store{DType: dt}
	for _, i := range values {
		s.Cells = append(s.Cells, integerCell(i))
	}
	return s
}

func floatStore(dt int64, values ...float64) impl.Store {
	s := impl.Store{DType: dt}
	for _, x := range values {
		s.Cells = append(s.Cells, floatCell(x))
	}
	return s
}

// countingStore has the values 0, 1, 2 .. of an integer dtype, so that each cell tells its place.
func countingStore(dt int64, n int64) impl.Store {
	s := impl.Store{DType: dt}
	for i := range n {
		s.Cells = append(s.Cells, integerCell(i))
	}
	return s
}

func heapOf(stores ...impl.Store) impl.Heap {
	return impl.Heap{Stores: stores}
}

func arrayOf(store int64, v impl.View) impl.Array {
	return impl.Array{Store: store, View: v}
}

func dense(store int64, offset int64, shape ...int64) impl.Array {
	strides := make([]int64, len(shape))
	for i := range shape {
		strides[i] = wantedCount(shape[i+1:]).Int64()
	}
	return arrayOf(store, viewOf(shape, strides, offset))
}

func drawnHeap(d *draws) impl.Heap {
	var h impl.Heap
	for range d.between(1, 4) {
		s := impl.Store{DType: d.between(1, 9)}
		all := someSamples(s.DType, 50)
		for range d.between(30, 60) {
			s.Cells = append(s.Cells, d.cellOf(all))
		}
		h.Stores = append(h.Stores, s)
	}
	return h
}

var drawnShapes = [][]int64{nil, {0}, {1}, {5}, {6}, {12}, {2, 3}, {3, 2}, {4, 4}, {1, 6}, {3, 0}, {2, 3, 2}, {1, 3, 4}, {2, 2, 3, 1}, {2, 1, 2, 2}}

// shrunk: a shape that broadcasts to the given one, with fewer axes and with lengths of 1 here and there.
func shrunk(d *draws, shape []int64) []int64 {
	out := slices.Clone(shape)
	for i := range out {
		if d.below(4) == 0 {
			out[i] = 1
		}
	}
	for len(out) > 0 && d.below(4) == 0 {
		out = out[1:]
	}
	return out
}

// drawnStrides lays the axes out in any order and direction, now and then with gaps or with elements on one place.
func drawnStrides(d *draws, shape []int64) []int64 {
	strides := make([]int64, len(shape))
	run := d.oneOf(list(1, 1, 1, 2))
	left := len(shape)
	for left > 0 {
		axis := d.below(int64(len(shape)))
		if strides[axis] != 0 {
			continue
		}
		strides[axis] = run * d.oneOf(list(1, 1, -1))
		run *= max(shape[axis], 1)
		left--
	}
	if len(shape) > 0 && d.below(8) == 0 {
		strides[d.below(int64(len(shape)))] = d.between(-3, 3)
	}
	return strides
}

func drawnArray(d *draws, h impl.Heap, store int64, shape []int64) impl.Array {
	size := int64(len(h.Stores[store].Cells))
	for range 20 {
		v := viewOf(shape, drawnStrides(d, shape), 0)
		places := wantedPlaces(v)
		if len(places) == 0 {
			return arrayOf(store, viewOf(shape, v.Strides, d.between(0, 4096)))
		}
		low, high := -slices.Min(places), size-1-slices.Max(places)
		if low <= high {
			v.Offset = d.oneOf(list(low, high, d.between(low, high)))
			return arrayOf(store, v)
		}
	}
	return dense(store, 0, shape...)
}

func drawnStore(d *draws, h impl.Heap) int64 {
	return d.below(int64(len(h.Stores)))
}

func drawnIndexes(d *draws, count int64, n int64) []int64 {
	out := []int64{}
	for range count {
		out = append(out, d.oneOf(list(d.between(-n, max(n-1, -n)), -n, n-1)))
	}
	return out
}

// drawnCall has mostly arguments that fit one another, with views that often share a store.
func drawnCall(d *draws, name string) arrayCall {
	c := arrayCall{name: name, heap: drawnHeap(d), tile: d.oneOf(list(1, 2, 5, 4096)), workers: d.between(1, 5)}
	if name == "Where" {
		c.heap.Stores = append(c.heap.Stores, storeOf(1, pick(drawnIndexes(d, 40, 2), samples(1))...))
	}
	shape := drawnShapes[d.below(int64(len(drawnShapes)))]
	store := drawnStore(d, c.heap)
	if d.below(2) == 0 {
		store = -1
	}
	for _, a := range c.arrays() {
		of := store
		if of < 0 {
			of = drawnStore(d, c.heap)
		}
		if a == &c.cond && d.below(8) != 0 {
			of = int64(len(c.heap.Stores) - 1)
		}
		*a = drawnArray(d, c.heap, of, shrunk(d, shape))
	}
	c.out = drawnArray(d, c.heap, c.out.Store, shape)
	c.op = d.between(1, 10)
	if name == "Unary" {
		c.op = d.between(1, 4)
	}
	for range d.below(12) {
		c.picks = append(c.picks, d.between(-70, 70))
	}
	c.drawIndexes(d)
	c.drawLanes(d, shape)
	c.drawMatrices(d)
	return c
}

func (c *arrayCall) drawIndexes(d *draws) {
	switch c.name {
	case "Take":
		n := int64(len(wantedPlaces(c.a.View)))
		c.index = drawnIndexes(d, d.below(9)*min(n, 1), n)
		c.out = drawnArray(d, c.heap, c.out.Store, list(int64(len(c.index))))
	case "Put":
		n := int64(len(wantedPlaces(c.out.View)))
		c.index = drawnIndexes(d, d.oneOf(list(int64(len(wantedPlaces(c.a.View))), d.below(9)))*min(n, 1), n)
	}
}

func (c *arrayCall) drawLanes(d *draws, shape []int64) {
	switch c.name {
	case "Reduce", "Scan", "SortAxis", "ArgSort":
		c.op = d.oneOf(list(1, 3, 5, 6))
		c.axis = d.below(int64(max(len(shape), 1)))
		c.a = drawnArray(d, c.heap, c.a.Store, shape)
		if c.name == "Reduce" && len(shape) > 0 {
			c.out = drawnArray(d, c.heap, c.out.Store, withoutAxis(shape, c.axis))
		}
	}
}

func (c *arrayCall) drawMatrices(d *draws) {
	n, k, m := d.oneOf(list(0, 1, 2, 3, 4, 5)), d.oneOf(list(0, 1, 2, 3, 4, 5)), d.oneOf(list(0, 1, 2, 3, 4, 5))
	switch c.name {
	case "MatMul":
		c.a, c.b, c.out = drawnArray(d, c.heap, c.a.Store, list(n, k)), drawnArray(d, c.heap, c.b.Store, list(k, m)), drawnArray(d, c.heap, c.out.Store, list(n, m))
	case "Solve":
		for i := range c.heap.Stores {
			if d.below(12) != 0 {
				c.heap.Stores[i] = drawnNumbers(d)
			}
		}
		c.a, c.b, c.out = drawnArray(d, c.heap, c.a.Store, list(n, n)), drawnArray(d, c.heap, c.b.Store, list(n)), drawnArray(d, c.heap, c.out.Store, list(n))
	}
}

// drawnNumbers has floats of which most systems can be solved, with some special ones among them.
func drawnNumbers(d *draws) impl.Store {
	s := impl.Store{DType: 8}
	special := someSamples(8, 50)
	rare := d.oneOf(list(6, 60, 600))
	for range d.between(40, 60) {
		x := floatCell(float64(d.between(-30, 30)) / float64(d.between(1, 9)))
		if d.below(rare) == 0 {
			x = d.cellOf(special)
		}
		s.Cells = append(s.Cells, x)
	}
	return s
}

// spoil makes something wrong in a call that was good; now and then nothing.
func (c *arrayCall) spoil(d *draws) {
	arrays := c.arrays()
	a := arrays[d.below(int64(len(arrays)))]
	switch d.below(12) {
	case 0:
		s := &c.heap.Stores[drawnStore(d, c.heap)]
		s.Cells[0] = d.cellOf(invalidCells(s.DType))
	case 1:
		a.Store = d.oneOf(list(-1, int64(len(c.heap.Stores)), 1<<40))
	case 2:
		a.View.Offset = d.oneOf(list(-1, 4097, int64(len(c.heap.Stores[a.Store].Cells))))
	case 3:
		c.op = d.oneOf(list(-1, 0, 5, 9, 10, 11))
	case 4:
		a.View.Shape = append(slices.Clone(a.View.Shape), d.oneOf(list(1, 2)))
		a.View.Strides = append(slices.Clone(a.View.Strides), 0)
	case 5:
		c.index = append(slices.Clone(c.index), d.between(-20, 20))
	case 6:
		c.out.View.Strides = make([]int64, len(c.out.View.Shape))
	case 7:
		c.out.Store = drawnStore(d, c.heap)
	case 8:
		if len(c.index) > 0 {
			c.index[d.below(int64(len(c.index)))] = d.oneOf(list(math.MinInt64, -17, 16, 1<<32, math.MaxInt64))
		}
	case 9:
		c.tile, c.workers = d.oneOf(list(0, 1, 4096, 4097)), d.oneOf(list(0, 1, 64, 65))
	case 10:
		c.axis = d.oneOf(list(-1, 1, int64(len(c.laned().View.Shape)), 4, math.MinInt64, math.MaxInt64))
	}
}

func (d *draws) cellOf(cells []impl.Cell) impl.Cell {
	return cells[d.below(int64(len(cells)))]
}

// checkFrame reads off the answer alone what holds for every call.
func checkFrame(t *testing.T, c arrayCall, got impl.TiledResult) {
	t.Helper()
	if got.Code != 0 {
		if len(got.Heap.Stores) != 0 || len(got.Turns) != 0 {
			t.Errorf("%s: more than the code %d: %v", c.name, got.Code, got)
		}
		return
	}
	if len(got.Heap.Stores) != len(c.heap.Stores) || !wantedValidHeap(got.Heap) {
		t.Errorf("%s: another number of stores, or a heap that is not valid: %v", c.name, got)
		return
	}
	written := wantedPlaces(c.out.View)
	for i, s := range c.heap.Stores {
		r := got.Heap.Stores[i]
		if r.DType != s.DType || len(r.Cells) != len(s.Cells) {
			t.Errorf("%s: store %d is another one: %v", c.name, i, r)
			continue
		}
		for place, cell := range s.Cells {
			if !sameCell(cell, r.Cells[place]) && (int64(i) != c.out.Store || !slices.Contains(written, int64(place))) {
				t.Errorf("%s: place %d of store %d was written", c.name, place, i)
			}
		}
	}
}

func checkCall(t *testing.T, c arrayCall) impl.TiledResult {
	t.Helper()
	before := copyOfHeap(c.heap)
	got := c.run()
	if want := c.wanted(); !sameResult(got, want) {
		t.Errorf("%+v: %v, want %v", c, got, want)
	}
	if !sameHeap(before, c.heap) {
		t.Errorf("%s: the heap that was handed in is another one", c.name)
	}
	checkFrame(t, c, got)
	return got
}
