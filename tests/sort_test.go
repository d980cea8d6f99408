package tests

import (
	"slices"
	"testing"

	"loop.example/s16388/impl"
)

// repeated draws a store whose cells come often, so that every lane has equal ones.
func repeated(d *draws, dt int64, n int64) impl.Store {
	s := impl.Store{DType: dt}
	all := samples(dt)
	few := []impl.Cell{d.cellOf(all), d.cellOf(all), d.cellOf(all), d.cellOf(all)}
	for range n {
		if d.below(3) == 0 {
			s.Cells = append(s.Cells, d.cellOf(all))
		} else {
			s.Cells = append(s.Cells, d.cellOf(few))
		}
	}
	return s
}

// P13
func TestSortsAlongEveryAxis(t *testing.T) {
	d := draws(17)
	views := append(laneViews(), dense(0, 0, 48).View, dense(0, 0, 8, 6).View, viewOf(list(48), list(-1), 47), viewOf(list(2, 3, 2, 4), list(4, 8, -2, 1), 2), dense(0, 0, 1, 5).View, dense(0, 9, 5, 1).View, dense(0, 9, 0, 3).View, dense(0, 3, 1).View)
	sorted := 0
	for _, v := range views {
		for _, dt := range dtypes {
			for axis := range v.Shape {
				h := heapOf(repeated(&d, dt, 48), storeOf(6, slices.Repeat([]impl.Cell{integerCell(-9)}, 48)...))
				if checkSorts(t, h, arrayOf(0, v), int64(axis)) {
					sorted++
				}
			}
		}
	}
	if sorted < 200 {
		t.Errorf("only %d calls were good", sorted)
	}
}

// checkSorts reads off the answers what the promise says; store 1 is there for the indexes. It tells whether a can be written.
func checkSorts(t *testing.T, h impl.Heap, a impl.Array, axis int64) bool {
	t.Helper()
	r := checkCall(t, arrayCall{name: "SortAxis", heap: h, axis: axis, out: a})
	indexes := dense(1, 0, a.View.Shape...)
	r2 := checkCall(t, arrayCall{name: "ArgSort", heap: h, a: a, axis: axis, out: indexes})
	if r2.Code != 0 || r.Code != codeWhere(!wantedWritable(a.View), 9) {
		t.Errorf("%v along %d: codes %d and %d", a, axis, r.Code, r2.Code)
		return false
	}
	if len(wantedPlaces(a.View)) == 0 || r.Code != 0 {
		return r.Code == 0
	}
	dt := h.Stores[a.Store].DType
	for _, others := range indexesOf(withoutAxis(a.View.Shape, axis)) {
		places := lanePlaces(a.View, axis, others)
		before, after := cellsAt(h, a.Store, places), cellsAt(r.Heap, a.Store, places)
		order := cellsAt(r2.Heap, 1, lanePlaces(indexes.View, axis, others))
		for i := range order {
			if !sameCell(before[order[i].I], after[i]) {
				t.Errorf("%v: ArgSort gives %v, SortAxis %v", before, order, after)
			}
			if i > 0 && (impl.Before(dt, after[i], after[i-1]) || !impl.Before(dt, after[i-1], after[i]) && order[i-1].I >= order[i].I) {
				t.Errorf("%v: %v and %v are the wrong way round, or not stable: %v", before, after[i-1], after[i], order)
			}
		}
		checkSameCells(t, before, after)
	}
	return true
}

// checkSameCells strikes out each cell of the one list in the other.
func checkSameCells(t *testing.T, before []impl.Cell, after []impl.Cell) {
	t.Helper()
	left := slices.Clone(after)
	for _, c := range before {
		at := slices.IndexFunc(left, func(o impl.Cell) bool { return sameCell(o, c) })
		if at < 0 {
			t.Errorf("%v: %v is gone from %v", before, c, after)
			return
		}
		left = slices.Delete(left, at, at+1)
	}
	if len(left) > 0 {
		t.Errorf("%v: %v came to %v", before, left, after)
	}
}

// P13: all lanes of five elements of which each is one of a few, one lane a row.
func TestSortsOfAllSmallLanes(t *testing.T) {
	kindsOfCells := map[int64][]impl.Cell{
		1: {integerCell(0), integerCell(1)}, 3: {integerCell(0), integerCell(127), integerCell(128)}, 6: {integerCell(-1), integerCell(0), integerCell(1 << 62)},
		7: {floatCell(nan), floatCell(minusZero), floatCell(0)}, 8: {floatCell(nan), floatCell(inf), floatCell(-inf)},
		9: {complexCell(0, nan), complexCell(minusZero, 1), complexCell(0, -1)},
	}
	for _, dt := range dtypes {
		cells := kindsOfCells[dt]
		if len(cells) == 0 {
			continue
		}
		s := impl.Store{DType: dt}
		rows := int64(0)
		for _, picks := range listsOf(5, 0, int64(len(cells)-1)) {
			s.Cells = append(s.Cells, pick(picks, cells)...)
			rows++
		}
		h := heapOf(s, storeOf(6, make([]impl.Cell, rows*5)...))
		checkSorts(t, h, dense(0, 0, rows, 5), 1)
		checkSorts(t, h, arrayOf(0, viewOf(list(5, rows), list(1, 5), 0)), 0)
	}
}

// P13
func TestSortsByName(t *testing.T) {
	floats := floatStore(8, nan, 0, inf, minusZero, -inf, 1, nan, -1)
	checkStore(t, "floats", impl.SortAxis(heapOf(floats), dense(0, 0, 8), 0), 0, floatStore(8, -inf, -1, minusZero, 0, 1, inf, nan, nan))
	parts := storeOf(9, complexCell(0, 1), complexCell(minusZero, 5), complexCell(0, -1), complexCell(nan, -inf), complexCell(-1, nan), complexCell(-1, inf), complexCell(0, minusZero), complexCell(0, 0))
	want := storeOf(9, complexCell(-1, inf), complexCell(-1, nan), complexCell(minusZero, 5), complexCell(0, -1), complexCell(0, minusZero), complexCell(0, 0), complexCell(0, 1), complexCell(nan, -inf))
	checkStore(t, "complex", impl.SortAxis(heapOf(parts), dense(0, 0, 8), 0), 0, want)
	checkStore(t, "whole", impl.SortAxis(heapOf(integerStore(6, 5, -1<<63, 1<<62, -1, 5, 0)), dense(0, 0, 6), 0), 0, integerStore(6, -1<<63, -1, 0, 5, 5, 1<<62))
	rows := heapOf(integerStore(3, 3, 1, 2, 255, 0, 128))
	checkStore(t, "rows", impl.SortAxis(rows, dense(0, 0, 2, 3), 1), 0, integerStore(3, 1, 2, 3, 0, 128, 255))
	checkStore(t, "columns", impl.SortAxis(rows, dense(0, 0, 2, 3), 0), 0, integerStore(3, 3, 0, 2, 255, 1, 128))
	checkStore(t, "backward", impl.SortAxis(rows, arrayOf(0, viewOf(list(6), list(-1), 5)), 0), 0, integerStore(3, 255, 128, 3, 2, 1, 0))
	checkStore(t, "every second", impl.SortAxis(rows, arrayOf(0, viewOf(list(3), list(2), 0)), 0), 0, integerStore(3, 0, 1, 2, 255, 3, 128))
	checkStore(t, "one element", impl.SortAxis(rows, dense(0, 2, 1), 0), 0, rows.Stores[0])
	checkStore(t, "six lanes of one", impl.SortAxis(rows, dense(0, 0, 6, 1), 1), 0, rows.Stores[0])
	checkStore(t, "no elements", impl.SortAxis(rows, dense(0, 0, 0), 0), 0, rows.Stores[0])
	checkStore(t, "indexes of rows", impl.ArgSort(heapOf(rows.Stores[0], floatStore(7, 9, 9, 9, 9, 9, 9)), dense(0, 0, 2, 3), 1, dense(1, 0, 2, 3)), 1, floatStore(7, 1, 2, 0, 1, 2, 0))
	checkStore(t, "indexes of columns", impl.ArgSort(heapOf(rows.Stores[0], floatStore(7, 9, 9, 9, 9, 9, 9)), dense(0, 0, 2, 3), 0, dense(1, 0, 2, 3)), 1, floatStore(7, 0, 1, 0, 1, 0, 1))
	checkStore(t, "indexes in their own place", impl.ArgSort(rows, dense(0, 0, 6), 0, dense(0, 0, 6)), 0, integerStore(3, 4, 1, 2, 0, 5, 3))
	checkStore(t, "indexes of zeros and NaN", impl.ArgSort(heapOf(floatStore(8, nan, 0, nan, minusZero, 0), countingStore(6, 5)), dense(0, 0, 5), 0, dense(1, 0, 5)), 1, integerStore(6, 3, 1, 4, 0, 2))
	flat := arrayOf(0, viewOf(list(4), list(0), 1))
	checkStore(t, "one place four times", impl.ArgSort(heapOf(floatStore(8, 1, 2), countingStore(6, 4)), flat, 0, dense(1, 0, 4)), 1, countingStore(6, 4))
	if r := impl.SortAxis(rows, flat, 0); r.Code != 9 {
		t.Errorf("a view that is not writable: code %d", r.Code)
	}
	if r := impl.SortAxis(rows, flat, 1); r.Code != 5 {
		t.Errorf("no such axis, and not writable: code %d", r.Code)
	}
}

// P13
func TestArgSortIntoEveryDType(t *testing.T) {
	d := draws(3)
	for _, dt := range dtypes {
		for _, out := range dtypes {
			h := heapOf(repeated(&d, dt, 600), storeOf(out, slices.Repeat(samples(out)[:1], 600)...))
			c := arrayCall{name: "ArgSort", heap: h, a: dense(0, 0, 2, 300), axis: 1, out: dense(1, 0, 2, 300)}
			if r := checkCall(t, c); r.Code != codeWhere(out == 1, 10) {
				t.Errorf("%d into %d: code %d", dt, out, r.Code)
			}
			c.out = arrayOf(1, viewOf(list(2, 300), list(0, 1), 0))
			if r := checkCall(t, c); r.Code != 9 {
				t.Errorf("%d into %d, not writable: code %d", dt, out, r.Code)
			}
		}
	}
}

// P13
func TestSortsOfTheLongestLanes(t *testing.T) {
	d := draws(23)
	up, down, few, mixed := impl.Store{DType: 5}, impl.Store{DType: 5}, impl.Store{DType: 5}, impl.Store{DType: 5}
	for i := range int64(4096) {
		up.Cells = append(up.Cells, integerCell(i))
		down.Cells = append(down.Cells, integerCell(-i))
		few.Cells = append(few.Cells, integerCell(i*i%7))
		mixed.Cells = append(mixed.Cells, integerCell(d.between(-3000, 3000)))
	}
	indexes := storeOf(6, make([]impl.Cell, 4096)...)
	checkSorts(t, heapOf(few, indexes), dense(0, 0, 4096), 0)
	checkSorts(t, heapOf(mixed, indexes), arrayOf(0, viewOf(list(4096), list(-1), 4095)), 0)
	for _, s := range []impl.Store{up, down, few, mixed} {
		checkSorts(t, heapOf(s, indexes), dense(0, 0, 512), 0)
		checkSorts(t, heapOf(s, indexes), dense(0, 0, 64, 64), 0)
	}
}
