package tests

import (
	"math"
	"slices"

	"loop.example/s16388/impl"
)

// laned is the array whose lanes are read.
func (c arrayCall) laned() impl.Array {
	if c.name == "SortAxis" {
		return c.out
	}
	return c.a
}

func (c arrayCall) laneCodes() []int64 {
	var codes []int64
	extreme := c.op == 5 || c.op == 6
	if c.name == "Reduce" || c.name == "Scan" {
		codes = list(codeWhere(c.op != 1 && c.op != 3 && !extreme, 3), codeWhere(extreme && c.dtypeOf(c.a) == 9, 4))
	}
	shape := c.laned().View.Shape
	if c.axis < 0 || c.axis >= int64(len(shape)) {
		return append(codes, 5)
	}
	if c.name != "Reduce" {
		return append(codes, codeWhere(!slices.Equal(shape, c.out.View.Shape), 6))
	}
	fits := slices.Equal(withoutAxis(shape, c.axis), c.out.View.Shape)
	return append(codes, codeWhere(!fits, 6), codeWhere(extreme && shape[c.axis] == 0 && len(wantedPlaces(c.out.View)) > 0, 7))
}

func withoutAxis(numbers []int64, axis int64) []int64 {
	return slices.Delete(slices.Clone(numbers), int(axis), int(axis)+1)
}

// lanePlaces has the places of the elements whose other indexes are the given ones.
func lanePlaces(v impl.View, axis int64, others []int64) []int64 {
	out := []int64{}
	for at := range v.Shape[axis] {
		out = append(out, placeOf(v, slices.Insert(slices.Clone(others), int(axis), at)))
	}
	return out
}

func (c arrayCall) laneWrites() ([]int64, []impl.Cell) {
	var places []int64
	var cells []impl.Cell
	if len(wantedPlaces(c.out.View)) == 0 {
		return nil, nil
	}
	of := c.laned()
	for _, others := range indexesOf(withoutAxis(of.View.Shape, c.axis)) {
		lane := cellsAt(c.heap, of.Store, lanePlaces(of.View, c.axis, others))
		cells = append(cells, c.wantedLane(lane)...)
		if c.name == "Reduce" {
			places = append(places, placeOf(c.out.View, others))
		} else {
			places = append(places, lanePlaces(c.out.View, c.axis, others)...)
		}
	}
	return places, cells
}

func (c arrayCall) wantedLane(lane []impl.Cell) []impl.Cell {
	dt := c.dtypeOf(c.laned())
	var out []impl.Cell
	switch c.name {
	case "Reduce":
		return []impl.Cell{c.wantedFold(lane)}
	case "Scan":
		for i := range lane {
			out = append(out, c.wantedFold(lane[:i+1]))
		}
	case "SortAxis":
		return pick(wantedOrder(dt, lane), lane)
	case "ArgSort":
		for _, k := range wantedOrder(dt, lane) {
			out = append(out, integerCell(k))
		}
	}
	return out
}

func (c arrayCall) wantedFold(lane []impl.Cell) impl.Cell {
	q := c.resultDType()
	if len(lane) == 0 {
		return wantedConvert(6, q, integerCell(codeWhere(c.op == 3, 1)))
	}
	fold := wantedConvert(c.dtypeOf(c.a), q, lane[0])
	for _, next := range lane[1:] {
		fold = wantedCell(c.op, q, fold, wantedConvert(c.dtypeOf(c.a), q, next))
	}
	return fold
}

// wantedOrder counts for each element those that come before it, which is its index in the ordered lane.
func wantedOrder(dt int64, lane []impl.Cell) []int64 {
	out := make([]int64, len(lane))
	for k, x := range lane {
		before := 0
		for i, y := range lane {
			if wantedBefore(dt, y, x) || i < k && !wantedBefore(dt, x, y) {
				before++
			}
		}
		out[before] = int64(k)
	}
	return out
}

func (c arrayCall) productCodes() []int64 {
	a, b, out := c.a.View.Shape, c.b.View.Shape, c.out.View.Shape
	good := len(a) == 2 && len(b) == 2 && len(out) == 2 && a[1] == b[0] && out[0] == a[0] && out[1] == b[1]
	return list(codeWhere(!good, 6))
}

func (c arrayCall) wantedProduct() []impl.Cell {
	var cells []impl.Cell
	for _, at := range indexesOf(c.out.View.Shape) {
		var sum impl.Cell
		for k := range c.b.View.Shape[0] {
			x := wantedConvert(c.dtypeOf(c.a), c.common(), c.elementOf(c.a, at[0], k))
			y := wantedConvert(c.dtypeOf(c.b), c.common(), c.elementOf(c.b, k, at[1]))
			product := wantedCell(3, c.common(), x, y)
			if k == 0 {
				sum = product
			} else {
				sum = wantedCell(1, c.common(), sum, product)
			}
		}
		cells = append(cells, sum)
	}
	return cells
}

func (c arrayCall) elementOf(a impl.Array, index ...int64) impl.Cell {
	return c.heap.Stores[a.Store].Cells[placeOf(a.View, index)]
}

func (c arrayCall) systemCodes() []int64 {
	dtypes := c.dtypeOf(c.a) == 8 && c.dtypeOf(c.b) == 8 && c.dtypeOf(c.out) == 8
	a, b, out := c.a.View.Shape, c.b.View.Shape, c.out.View.Shape
	shapes := len(a) == 2 && len(b) == 1 && len(out) == 1 && a[0] == a[1] && b[0] == a[0] && out[0] == a[0]
	singular := dtypes && shapes && a[0] > 0 && c.wantedUnknowns() == nil
	return list(codeWhere(!dtypes, 4), codeWhere(!shapes, 6), codeWhere(singular, 11))
}

// wantedUnknowns does one operation after another by the oracle of single operations; nil tells that there is no answer.
func (c arrayCall) wantedUnknowns() []impl.Cell {
	n := c.b.View.Shape[0]
	a, b := make([][]float64, n), make([]float64, n)
	for i := range n {
		for j := range n {
			a[i] = append(a[i], c.elementOf(c.a, i, j).F)
		}
		b[i] = c.elementOf(c.b, i).F
	}
	for k := range n {
		p := k
		for i := k + 1; i < n; i++ {
			if math.Abs(a[i][k]) > math.Abs(a[p][k]) {
				p = i
			}
		}
		if a[p][k] != a[p][k] || a[p][k] == 0 {
			return nil
		}
		for j := range n {
			a[k][j], a[p][j] = a[p][j], a[k][j]
		}
		b[k], b[p] = b[p], b[k]
		for i := k + 1; i < n; i++ {
			m := ieee(4, a[i][k], a[k][k], false)
			for j := k + 1; j < n; j++ {
				a[i][j] = ieee(2, a[i][j], ieee(3, m, a[k][j], false), false)
			}
			b[i] = ieee(2, b[i], ieee(3, m, b[k], false), false)
		}
	}
	x := make([]impl.Cell, n)
	for i := n - 1; i >= 0; i-- {
		s := b[i]
		for j := i + 1; j < n; j++ {
			s = ieee(2, s, ieee(3, a[i][j], x[j].F, false), false)
		}
		x[i] = floatCell(ieee(4, s, a[i][i], false))
	}
	return x
}
