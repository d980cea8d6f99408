package tests

import (
	"math"
	"slices"
	"testing"

	"loop.example/s16388/impl"
)

// P8
func TestNumbersOfArrays(t *testing.T) {
	got := list(impl.MaxStores, impl.ErrHeap, impl.ErrArray, impl.ErrAxis, impl.ErrShape, impl.ErrEmpty, impl.ErrIndex, impl.ErrWrite, impl.ErrCast, impl.ErrSingular, impl.ErrSize)
	if !slices.Equal(got, list(64, 1, 2, 5, 6, 7, 8, 9, 10, 11, 16)) {
		t.Errorf("%v", got)
	}
}

// P8
func TestValidHeap(t *testing.T) {
	many := slices.Repeat([]impl.Store{integerStore(6, 1, 2)}, 65)
	long := make([]impl.Cell, 4097)
	valid := []impl.Heap{{}, heapOf(), heapOf(many[:1]...), heapOf(many[:63]...), heapOf(many[:64]...), heapOf(storeOf(8)), heapOf(storeOf(5, long[:4095]...)), heapOf(storeOf(9, long[:4096]...), storeOf(1, long[:4096]...))}
	invalid := []impl.Heap{heapOf(many...), heapOf(make([]impl.Store, 1)...), heapOf(storeOf(5, long...)), heapOf(integerStore(1), storeOf(9, long...)), heapOf(make([]impl.Store, 65)...)}
	for _, dt := range noDTypes {
		invalid = append(invalid, heapOf(storeOf(dt)), heapOf(integerStore(1, 0), storeOf(dt, impl.Cell{})), heapOf(storeOf(dt), integerStore(1, 0)))
	}
	for _, dt := range dtypes {
		good := samples(dt)
		good = good[:min(len(good), 4096)]
		valid = append(valid, heapOf(storeOf(dt)), heapOf(storeOf(dt, good...)), heapOf(integerStore(6, 5), storeOf(dt, good...)))
		for _, wrong := range invalidCells(dt) {
			last := append(slices.Clone(good), wrong)
			invalid = append(invalid, heapOf(storeOf(dt, wrong)), heapOf(storeOf(dt, last...)), heapOf(integerStore(1), storeOf(dt, wrong), integerStore(1)), heapOf(storeOf(dt, wrong, good[0])))
		}
	}
	for i, h := range valid {
		if !impl.ValidHeap(h) || !wantedValidHeap(h) {
			t.Errorf("heap %d is valid", i)
		}
		if len(h.Stores) > 0 && !impl.ValidArray(h, dense(0, 0, 0)) {
			t.Errorf("heap %d has an array without elements", i)
		}
	}
	for i, h := range invalid {
		if impl.ValidHeap(h) || wantedValidHeap(h) {
			t.Errorf("heap %d is not valid: %v", i, h)
		}
		if impl.ValidArray(h, dense(0, 0, 0)) || len(impl.Read(h, dense(0, 0, 1))) != 0 {
			t.Errorf("heap %d is not valid, so it has no array", i)
		}
	}
}

// P8
func TestValidArrayEdges(t *testing.T) {
	h := heapOf(countingStore(5, 6), storeOf(8), countingStore(6, 4096), integerStore(1, 1))
	cases := []struct {
		name string
		a    impl.Array
		want bool
	}{
		{"all of the store", dense(0, 0, 6), true},
		{"one place behind it", dense(0, 1, 6), false},
		{"one element more", dense(0, 0, 7), false},
		{"the last cell", dense(0, 5), true},
		{"the last cell of the longest store", dense(2, 4095), true},
		{"all of the longest store", dense(2, 0, 64, 64), true},
		{"the place behind the last", dense(0, 6), false},
		{"backward from the last", arrayOf(0, viewOf(list(6), list(-1), 5)), true},
		{"backward from behind the last", arrayOf(0, viewOf(list(6), list(-1), 6)), false},
		{"backward past the first", arrayOf(0, viewOf(list(6), list(-1), 4)), false},
		{"every second", arrayOf(0, viewOf(list(3), list(2), 1)), true},
		{"every second, past the end", arrayOf(0, viewOf(list(3), list(2), 2)), false},
		{"the last place in the middle of the row", arrayOf(0, viewOf(list(2, 2), list(4, -1), 1)), true},
		{"a place behind the last in the middle of the row", arrayOf(0, viewOf(list(2, 2), list(4, -1), 2)), false},
		{"one cell many times", arrayOf(3, viewOf(list(4096), list(0), 0)), true},
		{"a cell that is not there many times", arrayOf(3, viewOf(list(4096), list(0), 1)), false},
		{"nothing of an empty store", dense(1, 0, 0), true},
		{"one of an empty store", dense(1, 0), false},
		{"nothing, far behind the store", dense(0, 4096, 0), true},
		{"nothing, just behind the store", dense(0, 6, 3, 0), true},
		{"nothing, too far", dense(0, 4097, 0), false},
		{"nothing, ahead of the store", dense(0, -1, 0), false},
		{"nothing, of a store that is not there", dense(4, 0, 0), false},
		{"a store that is not there", dense(4, 0, 1), false},
		{"the last store", dense(3, 0, 1), true},
		{"a store below 0", dense(-1, 0, 1), false},
		{"a store far below 0", dense(math.MinInt64, 0, 1), false},
		{"a store far above", dense(math.MaxInt64, 0, 1), false},
		{"a store whose number is cut to a good one", dense(1<<32, 0, 1), false},
	}
	for _, c := range cases {
		if got := impl.ValidArray(h, c.a); got != c.want || wantedValidArray(h, c.a) != c.want {
			t.Errorf("%s: %v", c.name, got)
		}
		if got := impl.Read(h, c.a); !sameCells(got, wantedRead(h, c.a)) {
			t.Errorf("%s: %v", c.name, got)
		}
	}
}

// P8: of a store with all places that a view can have, and of one that is a little shorter than the view asks for.
func TestReadOfManyViews(t *testing.T) {
	whole := countingStore(6, 4096)
	for _, v := range validViews() {
		got := impl.Read(heapOf(whole), arrayOf(0, v))
		var want []impl.Cell
		for _, place := range wantedPlaces(v) {
			want = append(want, integerCell(place))
		}
		if !sameCells(got, want) {
			t.Errorf("%v: %v", v, got)
		}
		if len(want) == 0 {
			continue
		}
		last := slices.Max(wantedPlaces(v))
		for n := last; n <= last+1 && n <= 4096; n++ {
			h := heapOf(integerStore(1), storeOf(6, whole.Cells[:n]...))
			if impl.ValidArray(h, arrayOf(1, v)) != (n > last) || (len(impl.Read(h, arrayOf(1, v))) > 0) != (n > last) {
				t.Errorf("%v in a store of %d", v, n)
			}
		}
	}
	for _, v := range invalidViews() {
		if impl.ValidArray(heapOf(whole), arrayOf(0, v)) || len(impl.Read(heapOf(whole), arrayOf(0, v))) != 0 {
			t.Errorf("%v is not valid", v)
		}
	}
}

// codesOf has the codes of each function, the smallest last. That out of Solve is not of F64 is code 4, so 10 is never the smallest.
var codesOf = map[string][]int64{
	"Elementwise": list(10, 9, 6, 4, 3, 2, 1), "Tiled": list(16, 10, 9, 6, 4, 3, 2, 1), "Unary": list(10, 9, 6, 4, 3, 2, 1),
	"Where": list(10, 9, 6, 4, 2, 1), "Take": list(10, 9, 8, 6, 2, 1), "Put": list(10, 9, 8, 6, 2, 1),
	"Reduce": list(10, 9, 7, 6, 5, 4, 3, 2, 1), "Scan": list(10, 9, 6, 5, 4, 3, 2, 1), "SortAxis": list(9, 5, 2, 1), "ArgSort": list(10, 9, 6, 5, 2, 1),
	"MatMul": list(10, 9, 6, 2, 1), "Solve": list(11, 9, 6, 4, 2, 1),
}

// P8, P9: arguments of all kinds against the oracle, the greater part of them good.
func TestDrawnCalls(t *testing.T) {
	seen := map[string]map[int64]int{}
	for _, name := range arrayFunctions {
		d := draws(31)
		seen[name] = map[int64]int{}
		for i := range 2500 {
			c := drawnCall(&d, name)
			if i%2 == 1 {
				c.spoil(&d)
			}
			seen[name][checkCall(t, c).Code]++
		}
	}
	for _, name := range arrayFunctions {
		for _, code := range append(list(0), codesOf[name]...) {
			if seen[name][code] < 5 {
				t.Errorf("%s: code %d came %d times: %v", name, code, seen[name][code], seen[name])
			}
		}
	}
}

// goodCall has code 0, and what spoils it for one code leaves it good for all others.
func goodCall(name string) arrayCall {
	c := arrayCall{
		name: name, heap: heapOf(floatStore(8, 1, 2, 3, 4, 5, 6), countingStore(2, 6), integerStore(1, 1, 0, 1, 0, 1, 0), storeOf(9, make([]impl.Cell, 6)...)),
		op: 1, cond: dense(2, 0, 6), a: dense(0, 0, 6), b: dense(0, 5), out: dense(0, 0, 6), index: list(0, 1, 2, -1, -2, -3), tile: 2, workers: 2,
	}
	switch name {
	case "Reduce":
		c.a, c.out, c.axis = dense(0, 0, 2, 3), dense(0, 0, 3), 0
	case "Scan", "SortAxis", "ArgSort":
		c.a, c.out, c.axis = dense(0, 0, 2, 3), dense(0, 0, 2, 3), 1
	case "MatMul":
		c.a, c.b, c.out = dense(0, 0, 2, 3), dense(0, 0, 3, 2), dense(0, 0, 2, 2)
	case "Solve":
		c.a, c.b, c.out = dense(0, 0, 2, 2), dense(0, 4, 2), dense(0, 0, 2)
	}
	return c
}

func (c *arrayCall) spoilFor(code int64) {
	switch code {
	case 1:
		c.heap.Stores = append(c.heap.Stores, integerStore(3, 256))
	case 2:
		first := c.arrays()[0]
		first.View.Offset = -1
	case 3:
		c.op = 11
	case 4:
		c.spoilDType()
	case 5:
		c.axis = 2
	case 6:
		c.out.View.Shape, c.out.View.Strides = list(6, 1), list(1, 1)
		if c.name == "Put" {
			c.index = append(c.index, 0)
		}
	case 7:
		c.op = 5
		c.a.View.Shape = list(0, 3)
	case 8:
		c.index[0] = 6
	case 9:
		c.out.View.Strides = make([]int64, len(c.out.View.Strides))
	case 10:
		c.out.Store = 2
	case 11:
		c.a.View.Strides = list(0, 0)
	case 16:
		c.tile = 0
	}
}

func (c *arrayCall) spoilDType() {
	switch c.name {
	case "Where":
		c.cond.Store = 0
	case "Unary":
		c.op = 2
	case "Reduce", "Scan":
		c.op = 6
		c.a.Store = 3
		// The result is complex too, and is not to be barred from out.
		if c.out.Store == 0 {
			c.out.Store = 3
		}
	case "Solve":
		c.b.Store = 1
	default:
		c.op = 9
	}
}

// P8
func TestCodesAloneAndTogether(t *testing.T) {
	for _, name := range arrayFunctions {
		for chosen := range 1 << len(codesOf[name]) {
			c := goodCall(name)
			want := int64(0)
			// The smallest code comes last, so that nothing else takes back what it spoils.
			for i, code := range codesOf[name] {
				if chosen>>i&1 == 1 {
					c.spoilFor(code)
					want = code
				}
			}
			if got := checkCall(t, c); got.Code != want {
				t.Errorf("%s, spoilt for %b of %v: code %d, want %d", name, chosen, codesOf[name], got.Code, want)
			}
		}
	}
}

// P8: a code is for every one of the arrays, wherever it stands in the list of arguments.
func TestEachArrayIsLookedAt(t *testing.T) {
	for _, name := range arrayFunctions {
		for i := range goodCallArrays(name) {
			for _, wrong := range []impl.Array{dense(4, 0, 6), dense(-1, 0, 6), dense(0, 1, 6), dense(0, 0, 7), arrayOf(0, viewOf(list(6), nil, 0)), arrayOf(0, viewOf(ones(5), ones(5), 0)), arrayOf(0, viewOf(list(0), list(1), 4097))} {
				c := goodCall(name)
				*c.arrays()[i] = wrong
				if got := checkCall(t, c); got.Code != 2 {
					t.Errorf("%s: array %d is %v: code %d", name, i, wrong, got.Code)
				}
			}
		}
	}
}

func goodCallArrays(name string) []*impl.Array {
	c := goodCall(name)
	return c.arrays()
}

var mark = impl.Cell{I: -71, F: 7.25, G: -7.5}

func roomyHeap(h impl.Heap) impl.Heap {
	var out impl.Heap
	for _, s := range h.Stores {
		cells := append(slices.Clone(s.Cells), mark, mark)
		out.Stores = append(out.Stores, impl.Store{DType: s.DType, Cells: cells[:len(s.Cells)]})
	}
	stores := append(out.Stores, storeOf(-71, mark), storeOf(-72))
	return impl.Heap{Stores: stores[:len(h.Stores)]}
}

func wholeOfHeap(h impl.Heap) impl.Heap {
	out := impl.Heap{Stores: slices.Clone(h.Stores[:cap(h.Stores)])}
	for i, s := range out.Stores {
		out.Stores[i].Cells = slices.Clone(s.Cells[:cap(s.Cells)])
	}
	return out
}

// markHeap writes over all that the answer holds, and tells whether some list is written by way of another one.
func markHeap(h impl.Heap) bool {
	for i, s := range h.Stores {
		for k := range s.Cells[:cap(s.Cells)] {
			s.Cells[:cap(s.Cells)][k] = integerCell(int64(-1000 - i))
		}
	}
	own := true
	for i, s := range h.Stores {
		for _, c := range s.Cells[:cap(s.Cells)] {
			own = own && c == integerCell(int64(-1000-i))
		}
	}
	for i := range h.Stores[:cap(h.Stores)] {
		h.Stores[:cap(h.Stores)][i] = storeOf(-5, mark)
	}
	return own
}

func roomyArray(a impl.Array) impl.Array {
	return arrayOf(a.Store, roomyView(a.View))
}

// P8
func TestAnswersAreNewMemory(t *testing.T) {
	for _, name := range arrayFunctions {
		d := draws(77)
		for range 150 {
			c := drawnCall(&d, name)
			c.heap, c.cond, c.a, c.b, c.out = roomyHeap(c.heap), roomyArray(c.cond), roomyArray(c.a), roomyArray(c.b), roomyArray(c.out)
			c.index, c.picks = roomy(c.index), roomy(c.picks)
			before := wholeOfHeap(c.heap)
			var lists [][]int64
			for _, v := range []impl.View{c.cond.View, c.a.View, c.b.View, c.out.View} {
				lists = append(lists, v.Shape, v.Strides)
			}
			checkLists(t, name, append(lists, c.index, c.picks), func() [][]int64 {
				r := c.run()
				if !markHeap(r.Heap) {
					t.Errorf("%s: two lists of the answer share memory", name)
				}
				for i := range r.Turns[:cap(r.Turns)] {
					r.Turns[:cap(r.Turns)][i] = impl.Turn{Worker: -9, Tile: -9}
				}
				return nil
			})
			if !sameHeap(wholeOfHeap(c.heap), before) {
				t.Errorf("%s: the heap that was handed in was written to", name)
			}
			checkCall(t, c)
		}
	}
}

// P8
func TestReadIsNewMemory(t *testing.T) {
	h := roomyHeap(heapOf(countingStore(5, 6)))
	before := wholeOfHeap(h)
	for _, a := range []impl.Array{dense(0, 0, 6), dense(0, 2, 2), dense(0, 0, 0)} {
		cells := impl.Read(h, a)
		for i := range cells[:cap(cells)] {
			cells[:cap(cells)][i] = mark
		}
	}
	if !sameHeap(wholeOfHeap(h), before) {
		t.Error("an answer of Read is memory of the heap")
	}
}
