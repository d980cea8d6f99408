package tests

import (
	"math"
	"slices"
	"testing"

	"loop.example/s16388/impl"
)

func checkView(t *testing.T, name string, got impl.ViewResult, want impl.ViewResult) {
	t.Helper()
	if got.Code != want.Code || !sameView(got.View, want.View) {
		t.Errorf("%s: %+v, want %+v", name, got, want)
	}
}

// checkElements: a view that was answered with code 0 is valid and goes through these places.
func checkElements(t *testing.T, name string, v impl.View, places []int64) {
	t.Helper()
	if !impl.ValidView(v) || !wantedValid(v) {
		t.Errorf("%s: %+v is not valid", name, v)
	} else if got := impl.Offsets(v); !slices.Equal(got, places) {
		t.Errorf("%s: %v, want %v", name, got, places)
	}
}

// P5
func TestNumbersOfViews(t *testing.T) {
	got := []int64{impl.MaxDims, impl.MaxElems, impl.MaxStep, impl.ErrAxis, impl.ErrShape, impl.ErrIndex, impl.ErrView, impl.ErrLayout}
	if !slices.Equal(got, list(4, 4096, 1000000, 5, 6, 8, 12, 13)) {
		t.Errorf("%v", got)
	}
}

// P5
func TestOffsetsOfValidViews(t *testing.T) {
	for _, v := range validViews() {
		if !wantedValid(v) {
			t.Fatalf("the sample %+v is not valid", v)
		}
		checkElements(t, "Offsets", v, wantedPlaces(v))
	}
}

// P5
func TestViewsThatAreNotValid(t *testing.T) {
	plain := viewOf(list(3), list(1), 0)
	for _, v := range invalidViews() {
		if wantedValid(v) {
			t.Fatalf("the sample %+v is valid", v)
		}
		if impl.ValidView(v) || len(impl.Offsets(v)) != 0 || impl.Writable(v) || impl.Overlap(v, v) || impl.Overlap(plain, v) || impl.Overlap(v, plain) {
			t.Errorf("%+v is taken as valid", v)
		}
		refused := impl.ViewResult{Code: impl.ErrView}
		checkView(t, "Slice", impl.Slice(v, -1, 0, 0, 0), refused)
		checkView(t, "Slice", impl.Slice(v, 0, 0, 1, 1), refused)
		checkView(t, "Transpose", impl.Transpose(v, list(7)), refused)
		checkView(t, "Transpose", impl.Transpose(v, list(0)), refused)
		checkView(t, "Reshape", impl.Reshape(v, list(-1)), refused)
		checkView(t, "Reshape", impl.Reshape(v, v.Shape), refused)
		checkView(t, "Broadcast", impl.Broadcast(v, list(-1)), refused)
		checkView(t, "Broadcast", impl.Broadcast(v, v.Shape), refused)
	}
}

// P5: numbers around all limits, so that both answers come.
func TestValidViewAroundItsLimits(t *testing.T) {
	d := draws(7)
	valid := 0
	for range 20000 {
		dims := d.between(0, 5)
		v := viewOf(make([]int64, dims), make([]int64, dims), d.oneOf(list(-1, 0, 1, 2, 2047, 2048, 4094, 4095, 4096, 4097)))
		for i := range dims {
			v.Shape[i] = d.oneOf(list(-1, 0, 1, 1, 1, 2, 2, 3, 64, 65, 2048, 4095, 4096, 4097))
			v.Strides[i] = d.oneOf(list(-4097, -4096, -4095, -2048, -2, -1, 0, 0, 1, 2, 63, 64, 2047, 2048, 4095, 4096, 4097))
		}
		want := wantedValid(v)
		if impl.ValidView(v) != want {
			t.Errorf("%+v: %v", v, !want)
		}
		if want {
			valid++
			checkElements(t, "Offsets", v, wantedPlaces(v))
		}
	}
	if valid < 1000 {
		t.Errorf("only %d valid views", valid)
	}
}

// P5
func TestWritable(t *testing.T) {
	for _, v := range validViews() {
		if want := wantedWritable(v); impl.Writable(v) != want {
			t.Errorf("%+v: %v", v, !want)
		}
	}
	// The same place is met at the very last element only, and by axes that are far from one another.
	for _, v := range []impl.View{viewOf(list(3, 2), list(2, 4), 0), viewOf(list(2, 2, 2), list(1, 2, 3), 0), viewOf(list(2, 2), list(5, -5), 5), viewOf(list(2, 64, 32), list(2047, 32, 1), 0)} {
		if impl.Writable(v) || wantedWritable(v) {
			t.Errorf("%+v is writable", v)
		}
	}
}

// P5
func TestOverlap(t *testing.T) {
	views := smallViews(30)
	views = append(views[:90], viewOf(list(4096), list(1), 0), viewOf(list(4096), list(0), 4095), viewOf(list(2), list(4095), 0), viewOf(nil, nil, 4095), viewOf(nil, nil, 0))
	for _, a := range views {
		for _, b := range views {
			if want := wantedOverlap(a, b); impl.Overlap(a, b) != want {
				t.Errorf("%+v %+v: %v", a, b, !want)
			}
		}
	}
}

func checkSlice(t *testing.T, v impl.View, axis int64, start int64, stop int64, step int64) {
	t.Helper()
	got, want := impl.Slice(v, axis, start, stop, step), wantedSlice(v, axis, start, stop, step)
	if got.Code != want.Code || !sameView(got.View, want.View) {
		t.Errorf("Slice(%+v, %d, %d, %d, %d): %+v, want %+v", v, axis, start, stop, step, got, want)
	}
	if got.Code == 0 {
		checkElements(t, "Slice", got.View, wantedSlicePlaces(v, axis, start, stop, step))
	}
}

// P5
func TestSliceAllBounds(t *testing.T) {
	for _, v := range []impl.View{
		viewOf(list(4), list(1), 3), viewOf(list(5), list(-3), 14), viewOf(list(3), list(0), 9), viewOf(list(1), list(4096), 4095), viewOf(list(0), list(-4096), 4096),
		viewOf(list(2, 3), list(3, 1), 1), viewOf(list(3, 0), list(7, 4096), 4096), viewOf(list(2, 1, 4), list(4, 999, -1), 6), viewOf(list(1, 4, 1, 3), list(-9, 3, 4096, 1), 1),
	} {
		for axis, n := range v.Shape {
			bounds := list(-1000001, -1000000, 1000000, 1000001)
			for b := -n - 2; b <= n+2; b++ {
				bounds = append(bounds, b)
			}
			for _, start := range bounds {
				for _, stop := range bounds {
					for _, step := range bounds {
						checkSlice(t, v, int64(axis), start, stop, step)
					}
				}
			}
		}
	}
}

// P5
func TestSliceOfManyViews(t *testing.T) {
	d := draws(8)
	for _, v := range validViews() {
		for range 40 {
			axis := d.between(-1, int64(len(v.Shape)))
			n := int64(5)
			if axis >= 0 && axis < int64(len(v.Shape)) {
				n = v.Shape[axis]
			}
			bound := func() int64 {
				return d.oneOf(list(d.between(-n-1, n+1), d.between(-n-1, n+1), 0, -1, n, n-1, 1000000, -1000000, d.oneOf(list(1000001, -1000001, math.MaxInt64, math.MinInt64))))
			}
			checkSlice(t, v, axis, bound(), bound(), d.oneOf(list(1, 1, 2, 3, -1, -1, -2, -3, bound())))
		}
	}
}

// P5
func TestSliceEdges(t *testing.T) {
	row := viewOf(list(4), list(2), 1)
	back := viewOf(list(4), list(-2), 7)
	gone := viewOf(list(0, 5), list(-4096, 4096), 4096)
	cases := []struct {
		name                    string
		v                       impl.View
		axis, start, stop, step int64
		want                    impl.ViewResult
	}{
		{"all", row, 0, 0, 4, 1, impl.ViewResult{View: row}},
		{"backward to the first element", row, 0, -1, -5, -1, impl.ViewResult{View: viewOf(list(4), list(-2), 7)}},
		{"backward, a stop of -1 is the last element", row, 0, 3, -1, -1, impl.ViewResult{View: viewOf(list(0), list(2), 1)}},
		{"backward from far to far", row, 0, 1000000, -1000000, -1, impl.ViewResult{View: viewOf(list(4), list(-2), 7)}},
		{"backward by the longest step", row, 0, 1000000, -1000000, -1000000, impl.ViewResult{View: viewOf(list(1), list(2), 7)}},
		{"backward by three", row, 0, 3, -1000000, -3, impl.ViewResult{View: viewOf(list(2), list(-6), 7)}},
		{"back again", back, 0, -1, -5, -1, impl.ViewResult{View: viewOf(list(4), list(2), 1)}},
		{"the last one", row, 0, -1, 1000000, 1, impl.ViewResult{View: viewOf(list(1), list(2), 7)}},
		{"the first one, backward", row, 0, 0, -5, -1, impl.ViewResult{View: viewOf(list(1), list(2), 1)}},
		{"none ahead of the first", row, 0, -1000000, -1000000, -1, impl.ViewResult{View: viewOf(list(0), list(2), 1)}},
		{"none behind the last", row, 0, 1000000, 1000000, 1, impl.ViewResult{View: viewOf(list(0), list(2), 1)}},
		{"none: stop is start", row, 0, 2, 2, 1, impl.ViewResult{View: viewOf(list(0), list(2), 1)}},
		{"another axis is empty", gone, 1, 3, -1000000, -2, impl.ViewResult{View: viewOf(list(0, 2), list(-4096, 4096), 4096)}},
		{"an empty axis", gone, 0, 0, 5, 1, impl.ViewResult{View: gone}},
		{"an empty axis, backward", gone, 0, -1, -5, -1, impl.ViewResult{View: gone}},
		{"axis before step", row, 1, 0, 1, 0, impl.ViewResult{Code: 5}},
		{"axis below 0", row, -1, 0, 1, 1, impl.ViewResult{Code: 5}},
		{"axis far out", row, math.MinInt64, 0, 1, 1, impl.ViewResult{Code: 5}},
		{"no axis at all", viewOf(nil, nil, 0), 0, 0, 1, 1, impl.ViewResult{Code: 5}},
		{"step 0", row, 0, 0, 1, 0, impl.ViewResult{Code: 8}},
		{"step too long", row, 0, 0, 1, 1000001, impl.ViewResult{Code: 8}},
		{"step too long, backward", row, 0, 0, 1, -1000001, impl.ViewResult{Code: 8}},
		{"step of all bits", row, 0, 0, 1, math.MinInt64, impl.ViewResult{Code: 8}},
		{"start too small", row, 0, -1000001, 1, 1, impl.ViewResult{Code: 8}},
		{"start too large", row, 0, 1000001, 1, 1, impl.ViewResult{Code: 8}},
		{"stop too small", row, 0, 0, -1000001, 1, impl.ViewResult{Code: 8}},
		{"stop too large", row, 0, 0, math.MaxInt64, 1, impl.ViewResult{Code: 8}},
	}
	for _, c := range cases {
		checkView(t, c.name, impl.Slice(c.v, c.axis, c.start, c.stop, c.step), c.want)
	}
}

// listsOf: all lists of that length with numbers in low..high.
func listsOf(length int, low int64, high int64) [][]int64 {
	out := [][]int64{nil}
	for range length {
		var longer [][]int64
		for _, head := range out {
			for n := low; n <= high; n++ {
				longer = append(longer, append(slices.Clone(head), n))
			}
		}
		out = longer
	}
	return out
}

// P5
func TestTranspose(t *testing.T) {
	far := [][]int64{list(math.MinInt64), list(0, math.MaxInt64), ones(1000), list(0, 1, 2, 3, 4), list(1 << 32), list(0, 1, 2, 1<<32+3)}
	for _, v := range append(smallViews(48)[:80], chosenViews()...) {
		dims := int64(len(v.Shape))
		perms := append(far, v.Shape, list(0, 1, 2, 3)[:max(dims-1, 0)], list(0, 1, 2, 3, 4)[:dims+1])
		if wantedCount(v.Shape).Int64() <= 100 {
			perms = append(perms, listsOf(int(dims), -1, dims)...)
		} else {
			perms = append(perms, listsOf(int(dims), 0, dims-1)...)
		}
		for _, perm := range perms {
			got := impl.Transpose(v, perm)
			checkView(t, "Transpose", got, wantedTranspose(v, perm))
			if got.Code == 0 {
				checkElements(t, "Transpose", got.View, wantedTransposePlaces(v, perm))
			}
		}
	}
}

// P5
func TestReshape(t *testing.T) {
	codes := map[int64]int{}
	for _, v := range validViews() {
		for _, shape := range append(someShapes(), v.Shape, list(wantedCount(v.Shape).Int64()), list(1, wantedCount(v.Shape).Int64(), 1)) {
			got := impl.Reshape(v, shape)
			checkView(t, "Reshape", got, wantedReshape(v, shape))
			if got.Code == 0 {
				checkElements(t, "Reshape", got.View, wantedPlaces(v))
			}
			codes[got.Code]++
		}
	}
	for _, code := range list(0, 6, 13) {
		if codes[code] < 100 {
			t.Errorf("code %d came only %d times", code, codes[code])
		}
	}
}

// P5
func TestReshapeEdges(t *testing.T) {
	cases := []struct {
		name  string
		v     impl.View
		shape []int64
		want  impl.ViewResult
	}{
		{"odd strides of ones", viewOf(list(1, 2, 1, 3), list(-777, 3, 4096, 1), 5), list(6), impl.ViewResult{View: viewOf(list(6), list(1), 5)}},
		{"one element", viewOf(list(1, 1), list(-4096, 4096), 4095), nil, impl.ViewResult{View: viewOf(nil, nil, 4095)}},
		{"one element gets axes", viewOf(nil, nil, 3), list(1, 1, 1, 1), impl.ViewResult{View: viewOf(list(1, 1, 1, 1), list(1, 1, 1, 1), 3)}},
		{"no elements, odd strides", viewOf(list(0, 3), list(-5, 0), 4096), list(4096, 4096, 4096, 0), impl.ViewResult{View: viewOf(list(4096, 4096, 4096, 0), list(0, 0, 0, 0), 4096)}},
		{"no elements, one axis", viewOf(list(4096, 0), list(-5, 9), 17), list(0), impl.ViewResult{View: viewOf(list(0), list(0), 17)}},
		{"all places", viewOf(list(64, 64), list(64, 1), 0), list(1, 4096), impl.ViewResult{View: viewOf(list(1, 4096), list(4096, 1), 0)}},
		{"backward", viewOf(list(3), list(-1), 2), list(3), impl.ViewResult{Code: 13}},
		{"the same place", viewOf(list(2), list(0), 2), list(2), impl.ViewResult{Code: 13}},
		{"every second", viewOf(list(2), list(2), 2), list(2), impl.ViewResult{Code: 13}},
		{"a gap between rows", viewOf(list(2, 2), list(3, 1), 2), list(4), impl.ViewResult{Code: 13}},
		{"a gap at the last element", viewOf(list(2, 2, 2), list(5, 2, 1), 0), list(8), impl.ViewResult{Code: 13}},
		{"columns first", viewOf(list(2, 2), list(1, 2), 2), list(4), impl.ViewResult{Code: 13}},
		{"shape before layout", viewOf(list(3), list(-1), 2), list(4), impl.ViewResult{Code: 6}},
		{"bad shape with no element", viewOf(list(0), list(1), 2), list(0, 4097), impl.ViewResult{Code: 6}},
		{"bad shape whose product comes round to 0", viewOf(list(0), list(1), 2), list(1<<32, 1<<32), impl.ViewResult{Code: 6}},
		{"bad shape of negative lengths", viewOf(list(6), list(1), 2), list(-2, -3), impl.ViewResult{Code: 6}},
		{"too many axes", viewOf(list(6), list(1), 2), list(6, 1, 1, 1, 1), impl.ViewResult{Code: 6}},
		{"an element for none", viewOf(list(0), list(1), 2), nil, impl.ViewResult{Code: 6}},
	}
	for _, c := range cases {
		checkView(t, c.name, impl.Reshape(c.v, c.shape), c.want)
	}
}

// stretchedShapes: shapes that a view fits, and near ones.
func stretchedShapes(d *draws, v impl.View) [][]int64 {
	var out [][]int64
	for range 12 {
		shape := slices.Clone(v.Shape)
		for i, n := range shape {
			if n == 1 || d.below(12) == 0 {
				shape[i] = d.oneOf(list(0, 1, 2, 3, 4096))
			}
		}
		for range d.between(0, 2) {
			shape = slices.Insert(shape, 0, d.oneOf(list(0, 1, 1, 2, 3)))
		}
		out = append(out, shape)
	}
	return out
}

// P5
func TestBroadcast(t *testing.T) {
	d := draws(9)
	codes := map[int64]int{}
	for _, v := range validViews() {
		for _, shape := range append(someShapes(), stretchedShapes(&d, v)...) {
			got := impl.Broadcast(v, shape)
			checkView(t, "Broadcast", got, wantedBroadcast(v, shape))
			if got.Code == 0 {
				checkElements(t, "Broadcast", got.View, wantedBroadcastPlaces(v, shape))
			}
			codes[got.Code]++
		}
	}
	if codes[0] < 500 || codes[6] < 500 {
		t.Errorf("%v", codes)
	}
}

// P5
func TestBroadcastEdges(t *testing.T) {
	cases := []struct {
		name  string
		v     impl.View
		shape []int64
		want  impl.ViewResult
	}{
		{"one element to all", viewOf(nil, nil, 4095), list(64, 64), impl.ViewResult{View: viewOf(list(64, 64), list(0, 0), 4095)}},
		{"no axis to no axis", viewOf(nil, nil, 4095), nil, impl.ViewResult{View: viewOf(nil, nil, 4095)}},
		{"a one that stays keeps its stride", viewOf(list(1, 3), list(-4096, 2), 1), list(2, 1, 3), impl.ViewResult{View: viewOf(list(2, 1, 3), list(0, -4096, 2), 1)}},
		{"a one to none", viewOf(list(1, 3), list(9, 2), 1), list(0, 3), impl.ViewResult{View: viewOf(list(0, 3), list(0, 2), 1)}},
		{"none stays none", viewOf(list(0), list(-9), 4096), list(4096, 4096, 0), impl.ViewResult{View: viewOf(list(4096, 4096, 0), list(0, 0, -9), 4096)}},
		{"none to a one", viewOf(list(0), list(9), 1), list(1), impl.ViewResult{Code: 6}},
		{"three to a one", viewOf(list(3), list(1), 1), list(1), impl.ViewResult{Code: 6}},
		{"from the last axis backward", viewOf(list(2), list(1), 1), list(2, 3), impl.ViewResult{Code: 6}},
		{"fewer axes, all ones", viewOf(list(1, 1), list(1, 1), 1), list(1), impl.ViewResult{Code: 6}},
		{"more than MaxElems", viewOf(list(64), list(1), 1), list(65, 64), impl.ViewResult{Code: 6}},
		{"too many axes", viewOf(nil, nil, 1), ones(5), impl.ViewResult{Code: 6}},
		{"a length below 0", viewOf(list(1), list(1), 1), list(-1), impl.ViewResult{Code: 6}},
		{"lengths whose product comes round to 0", viewOf(list(1), list(1), 1), list(1<<32, 1<<32), impl.ViewResult{Code: 6}},
	}
	for _, c := range cases {
		checkView(t, c.name, impl.Broadcast(c.v, c.shape), c.want)
	}
}

// P5
func TestBroadcastShape(t *testing.T) {
	shapes := append(someShapes(), list(32, 1), list(1, 128), list(1, 129), list(129, 1), list(4, 1, 8), list(9, 1), list(2, 1, 3, 1), list(5, 1, 7))
	for _, a := range shapes {
		for _, b := range shapes {
			got, want := impl.BroadcastShape(a, b), wantedBroadcastShape(a, b)
			if got.Code != want.Code || !slices.Equal(got.Shape, want.Shape) {
				t.Errorf("%v %v: %+v, want %+v", a, b, got, want)
			}
		}
	}
}
