package tests

import (
	"slices"

	"loop.example/s16388/impl"
)

// arrayCall is a call of one of the functions on heaps, with all its arguments, so that one test can go through all functions.
// What a function has no use for stays the zero value. Put writes out, and its values are a; SortAxis writes out, and has no other.
type arrayCall struct {
	name    string
	heap    impl.Heap
	op      int64
	cond    impl.Array
	a       impl.Array
	b       impl.Array
	out     impl.Array
	axis    int64
	index   []int64
	tile    int64
	workers int64
	picks   []int64
}

var arrayFunctions = []string{"Elementwise", "Tiled", "Unary", "Where", "Take", "Put", "Reduce", "Scan", "SortAxis", "ArgSort", "MatMul", "Solve"}

// run answers for every function in the widest form; Turns is of Tiled alone.
func (c arrayCall) run() impl.TiledResult {
	var r impl.HeapResult
	switch c.name {
	case "Elementwise":
		r = impl.Elementwise(c.heap, c.op, c.a, c.b, c.out)
	case "Tiled":
		return impl.Tiled(c.heap, c.op, c.a, c.b, c.out, c.tile, c.workers, c.picks)
	case "Unary":
		r = impl.Unary(c.heap, c.op, c.a, c.out)
	case "Where":
		r = impl.Where(c.heap, c.cond, c.a, c.b, c.out)
	case "Take":
		r = impl.Take(c.heap, c.a, c.index, c.out)
	case "Put":
		r = impl.Put(c.heap, c.out, c.index, c.a)
	case "Reduce":
		r = impl.Reduce(c.heap, c.op, c.a, c.axis, c.out)
	case "Scan":
		r = impl.Scan(c.heap, c.op, c.a, c.axis, c.out)
	case "SortAxis":
		r = impl.SortAxis(c.heap, c.out, c.axis)
	case "ArgSort":
		r = impl.ArgSort(c.heap, c.a, c.axis, c.out)
	case "MatMul":
		r = impl.MatMul(c.heap, c.a, c.b, c.out)
	case "Solve":
		r = impl.Solve(c.heap, c.a, c.b, c.out)
	}
	return impl.TiledResult{Code: r.Code, Heap: r.Heap}
}

func (c *arrayCall) arrays() []*impl.Array {
	switch c.name {
	case "Unary", "Take", "Put", "Reduce", "Scan", "ArgSort":
		return []*impl.Array{&c.a, &c.out}
	case "SortAxis":
		return []*impl.Array{&c.out}
	case "Where":
		return []*impl.Array{&c.cond, &c.a, &c.b, &c.out}
	}
	return []*impl.Array{&c.a, &c.b, &c.out}
}

func (c *arrayCall) inputs() []*impl.Array {
	all := c.arrays()
	return all[:len(all)-1]
}

func (c arrayCall) dtypeOf(a impl.Array) int64 {
	return c.heap.Stores[a.Store].DType
}

func (c arrayCall) common() int64 {
	return impl.Promote(c.dtypeOf(c.a), c.dtypeOf(c.b))
}

func (c arrayCall) resultDType() int64 {
	switch c.name {
	case "Elementwise", "Tiled":
		if c.op == 7 || c.op == 8 {
			return 1
		}
		return c.common()
	case "Where", "MatMul":
		return c.common()
	case "Reduce", "Scan":
		if kinds[c.dtypeOf(c.a)] < 2 && (c.op == 1 || c.op == 3) {
			return 6
		}
	case "SortAxis":
		return c.dtypeOf(c.out)
	case "ArgSort":
		return 6
	case "Solve":
		return 8
	}
	return c.dtypeOf(c.a)
}

func wantedValidHeap(h impl.Heap) bool {
	for _, s := range h.Stores {
		if s.DType < 1 || s.DType > 9 || len(s.Cells) > 4096 {
			return false
		}
		for _, c := range s.Cells {
			if !impl.ValidCell(s.DType, c) {
				return false
			}
		}
	}
	return len(h.Stores) <= 64
}

func wantedValidArray(h impl.Heap, a impl.Array) bool {
	if !wantedValidHeap(h) || !wantedValid(a.View) {
		return false
	}
	for store := range h.Stores {
		if int64(store) == a.Store {
			return !slices.ContainsFunc(wantedPlaces(a.View), func(place int64) bool { return place >= int64(len(h.Stores[store].Cells)) })
		}
	}
	return false
}

func cellsAt(h impl.Heap, store int64, places []int64) []impl.Cell {
	out := []impl.Cell{}
	for _, place := range places {
		out = append(out, h.Stores[store].Cells[place])
	}
	return out
}

func wantedRead(h impl.Heap, a impl.Array) []impl.Cell {
	if !wantedValidArray(h, a) {
		return nil
	}
	return cellsAt(h, a.Store, wantedPlaces(a.View))
}

// wantedCodes gathers all codes that apply, beside those that bar looking for more.
func (c arrayCall) wantedCodes() []int64 {
	if !wantedValidHeap(c.heap) {
		return list(1)
	}
	for _, a := range c.arrays() {
		if !wantedValidArray(c.heap, *a) {
			return list(2)
		}
	}
	codes := c.ownCodes()
	if !wantedWritable(c.out.View) {
		codes = append(codes, 9)
	}
	if !impl.CanCast(c.resultDType(), c.dtypeOf(c.out), 1) {
		codes = append(codes, 10)
	}
	return slices.DeleteFunc(codes, func(code int64) bool { return code == 0 })
}

func codeWhere(wrong bool, code int64) int64 {
	if wrong {
		return code
	}
	return 0
}

// The zero cell is a cell of every dtype, so Apply of it tells whether the operation is for a dtype.
func (c arrayCall) ownCodes() []int64 {
	shape := c.out.View.Shape
	switch c.name {
	case "Elementwise":
		r := wantedBroadcastShape(c.a.View.Shape, c.b.View.Shape)
		return list(impl.Apply(c.op, c.common(), impl.Cell{}, impl.Cell{}).Code, codeWhere(r.Code != 0 || !slices.Equal(r.Shape, shape), 6))
	case "Tiled":
		c.name = "Elementwise"
		return append(c.ownCodes(), codeWhere(c.tile < 1 || c.tile > 4096 || c.workers < 1 || c.workers > 64 || len(c.picks) > 10000, 16))
	case "Unary":
		return list(impl.ApplyUnary(c.op, c.dtypeOf(c.a), impl.Cell{}).Code, wantedBroadcast(c.a.View, shape).Code)
	case "Where":
		r := wantedBroadcastShape(c.a.View.Shape, c.b.View.Shape)
		whole := wantedBroadcastShape(r.Shape, c.cond.View.Shape)
		return list(codeWhere(c.dtypeOf(c.cond) != 1, 4), r.Code, whole.Code, codeWhere(!slices.Equal(whole.Shape, shape), 6))
	case "Take":
		return list(codeWhere(!slices.Equal(shape, list(int64(len(c.index)))), 6), wantedIndexCode(c.index, c.a))
	case "Reduce", "Scan", "SortAxis", "ArgSort":
		return c.laneCodes()
	case "MatMul":
		return c.productCodes()
	case "Solve":
		return c.systemCodes()
	}
	n := len(wantedPlaces(c.a.View))
	return list(codeWhere(n != 1 && n != len(c.index), 6), wantedIndexCode(c.index, c.out))
}

func wantedIndexCode(index []int64, a impl.Array) int64 {
	n := int64(len(wantedPlaces(a.View)))
	return codeWhere(slices.ContainsFunc(index, func(k int64) bool { return k < -n || k > n-1 }), 8)
}

// spread reads the elements of an input for each element of out, by the indexes that broadcasting gives it.
func (c arrayCall) spread(a impl.Array) []impl.Cell {
	return cellsAt(c.heap, a.Store, wantedBroadcastPlaces(a.View, c.out.View.Shape))
}

func pick[T any](index []int64, list []T) []T {
	out := []T{}
	for _, k := range index {
		if k < 0 {
			k += int64(len(list))
		}
		out = append(out, list[k])
	}
	return out
}

// wantedWrites gives the places that are written, one after another, and the cells of the result.
func (c arrayCall) wantedWrites() ([]int64, []impl.Cell) {
	places := wantedPlaces(c.out.View)
	switch c.name {
	case "Take":
		return places, pick(c.index, cellsAt(c.heap, c.a.Store, wantedPlaces(c.a.View)))
	case "Put":
		values := cellsAt(c.heap, c.a.Store, wantedPlaces(c.a.View))
		for len(values) < len(c.index) {
			values = append(values, values[0])
		}
		return pick(c.index, places), values
	case "Unary":
		var out []impl.Cell
		for _, x := range c.spread(c.a) {
			out = append(out, impl.ApplyUnary(c.op, c.dtypeOf(c.a), x).Cell)
		}
		return places, out
	case "Reduce", "Scan", "SortAxis", "ArgSort":
		return c.laneWrites()
	case "MatMul":
		return places, c.wantedProduct()
	case "Solve":
		return places, c.wantedUnknowns()
	}
	var out []impl.Cell
	left, right := c.spread(c.a), c.spread(c.b)
	for i := range places {
		x := impl.Convert(c.dtypeOf(c.a), c.common(), left[i])
		y := impl.Convert(c.dtypeOf(c.b), c.common(), right[i])
		switch {
		case c.name != "Where":
			out = append(out, impl.Apply(c.op, c.common(), x, y).Cell)
		case c.spread(c.cond)[i].I == 1:
			out = append(out, x)
		default:
			out = append(out, y)
		}
	}
	return places, out
}

func (c arrayCall) wanted() impl.TiledResult {
	if codes := c.wantedCodes(); len(codes) > 0 {
		return impl.TiledResult{Code: slices.Min(codes)}
	}
	r := impl.TiledResult{Heap: copyOfHeap(c.heap)}
	places, cells := c.wantedWrites()
	for i, place := range places {
		r.Heap.Stores[c.out.Store].Cells[place] = impl.Convert(c.resultDType(), c.dtypeOf(c.out), cells[i])
	}
	if c.name == "Tiled" {
		tiles := int64(0)
		for tiles*c.tile < int64(len(places)) {
			tiles++
		}
		r.Turns = wantedSchedule(tiles, c.workers, c.picks)
	}
	return r
}

func copyOfHeap(h impl.Heap) impl.Heap {
	var out impl.Heap
	for _, s := range h.Stores {
		out.Stores = append(out.Stores, impl.Store{DType: s.DType, Cells: slices.Clone(s.Cells)})
	}
	return out
}

func sameCells(a []impl.Cell, b []impl.Cell) bool {
	return slices.EqualFunc(a, b, sameCell)
}

func sameHeap(a impl.Heap, b impl.Heap) bool {
	return slices.EqualFunc(a.Stores, b.Stores, func(s impl.Store, r impl.Store) bool {
		return s.DType == r.DType && sameCells(s.Cells, r.Cells)
	})
}

func sameResult(a impl.TiledResult, b impl.TiledResult) bool {
	return a.Code == b.Code && sameHeap(a.Heap, b.Heap) && slices.Equal(a.Turns, b.Turns)
}
