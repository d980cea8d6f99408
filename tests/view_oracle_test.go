package tests

import (
	"math/big"
	"slices"

	"loop.example/s16388/impl"
)

// draws is a row of numbers that is the same in every run.
type draws uint64

func (d *draws) below(n int64) int64 {
	*d = *d*6364136223846793005 + 1442695040888963407
	return int64(uint64(*d)>>33) % n
}

func (d *draws) between(low int64, high int64) int64 {
	return low + d.below(high-low+1)
}

func (d *draws) oneOf(list []int64) int64 {
	return list[d.below(int64(len(list)))]
}

func viewOf(shape []int64, strides []int64, offset int64) impl.View {
	return impl.View{Shape: shape, Strides: strides, Offset: offset}
}

func sameView(a impl.View, b impl.View) bool {
	return slices.Equal(a.Shape, b.Shape) && slices.Equal(a.Strides, b.Strides) && a.Offset == b.Offset
}

// wantedCount multiplies in numbers of any length, so that no product can come round to a small one.
func wantedCount(shape []int64) *big.Int {
	product := big.NewInt(1)
	for _, n := range shape {
		product.Mul(product, big.NewInt(n))
	}
	return product
}

func wantedGood(shape []int64) bool {
	for _, n := range shape {
		if n < 0 || n > 4096 {
			return false
		}
	}
	return len(shape) <= 4 && wantedCount(shape).Cmp(big.NewInt(4096)) <= 0
}

// indexesOf gives the indexes of all elements of a good shape in row-major order: element number k has the digits of k.
func indexesOf(shape []int64) [][]int64 {
	var out [][]int64
	for k := range wantedCount(shape).Int64() {
		index := make([]int64, len(shape))
		for i := len(shape) - 1; i >= 0; i-- {
			index[i] = k % shape[i]
			k /= shape[i]
		}
		out = append(out, index)
	}
	return out
}

func placeOf(v impl.View, index []int64) int64 {
	place := v.Offset
	for i, at := range index {
		place += at * v.Strides[i]
	}
	return place
}

func wantedPlaces(v impl.View) []int64 {
	out := []int64{}
	for _, index := range indexesOf(v.Shape) {
		out = append(out, placeOf(v, index))
	}
	return out
}

func wantedValid(v impl.View) bool {
	if !wantedGood(v.Shape) || len(v.Strides) != len(v.Shape) || v.Offset < 0 || v.Offset > 4096 {
		return false
	}
	for _, stride := range v.Strides {
		if stride < -4096 || stride > 4096 {
			return false
		}
	}
	for _, place := range wantedPlaces(v) {
		if place < 0 || place > 4095 {
			return false
		}
	}
	return true
}

func wantedWritable(v impl.View) bool {
	if !wantedValid(v) {
		return false
	}
	places := wantedPlaces(v)
	slices.Sort(places)
	return len(slices.Compact(places)) == len(indexesOf(v.Shape))
}

func wantedOverlap(a impl.View, b impl.View) bool {
	if !wantedValid(a) || !wantedValid(b) {
		return false
	}
	ofB := wantedPlaces(b)
	return slices.ContainsFunc(wantedPlaces(a), func(place int64) bool { return slices.Contains(ofB, place) })
}

func wantedTaken(n int64, start int64, stop int64, step int64) []int64 {
	lo, hi := int64(0), n
	if step < 0 {
		lo, hi = -1, n-1
	}
	right := func(x int64) int64 {
		if x < 0 {
			x += n
			if x < lo {
				x = lo
			}
		} else if x > hi {
			x = hi
		}
		return x
	}
	var taken []int64
	stop = right(stop)
	for i := right(start); step > 0 && i < stop || step < 0 && i > stop; i += step {
		taken = append(taken, i)
	}
	return taken
}

func wantedSlice(v impl.View, axis int64, start int64, stop int64, step int64) impl.ViewResult {
	if !wantedValid(v) {
		return impl.ViewResult{Code: 12}
	}
	if axis < 0 || axis >= int64(len(v.Shape)) {
		return impl.ViewResult{Code: 5}
	}
	for _, x := range []int64{start, stop, step} {
		if x < -1000000 || x > 1000000 {
			return impl.ViewResult{Code: 8}
		}
	}
	if step == 0 {
		return impl.ViewResult{Code: 8}
	}
	taken := wantedTaken(v.Shape[axis], start, stop, step)
	out := viewOf(slices.Clone(v.Shape), slices.Clone(v.Strides), v.Offset)
	out.Shape[axis] = int64(len(taken))
	if wantedCount(out.Shape).Sign() != 0 {
		out.Offset += taken[0] * v.Strides[axis]
		if len(taken) > 1 {
			out.Strides[axis] *= step
		}
	}
	return impl.ViewResult{View: out}
}

// wantedSlicePlaces reads the elements that are taken by their indexes in v itself.
func wantedSlicePlaces(v impl.View, axis int64, start int64, stop int64, step int64) []int64 {
	taken := wantedTaken(v.Shape[axis], start, stop, step)
	shape := slices.Clone(v.Shape)
	shape[axis] = int64(len(taken))
	out := []int64{}
	for _, index := range indexesOf(shape) {
		index[axis] = taken[index[axis]]
		out = append(out, placeOf(v, index))
	}
	return out
}

func wantedTranspose(v impl.View, perm []int64) impl.ViewResult {
	if !wantedValid(v) {
		return impl.ViewResult{Code: 12}
	}
	sorted := slices.Clone(perm)
	slices.Sort(sorted)
	for i, axis := range sorted {
		if axis != int64(i) {
			return impl.ViewResult{Code: 5}
		}
	}
	if len(perm) != len(v.Shape) {
		return impl.ViewResult{Code: 5}
	}
	out := impl.View{Offset: v.Offset}
	for _, axis := range perm {
		out.Shape = append(out.Shape, v.Shape[axis])
		out.Strides = append(out.Strides, v.Strides[axis])
	}
	return impl.ViewResult{View: out}
}

func wantedTransposePlaces(v impl.View, perm []int64) []int64 {
	shape := make([]int64, len(perm))
	for i, axis := range perm {
		shape[i] = v.Shape[axis]
	}
	out := []int64{}
	for _, index := range indexesOf(shape) {
		ofV := make([]int64, len(index))
		for i, axis := range perm {
			ofV[axis] = index[i]
		}
		out = append(out, placeOf(v, ofV))
	}
	return out
}

func wantedReshape(v impl.View, shape []int64) impl.ViewResult {
	if !wantedValid(v) {
		return impl.ViewResult{Code: 12}
	}
	if !wantedGood(shape) || wantedCount(shape).Cmp(wantedCount(v.Shape)) != 0 {
		return impl.ViewResult{Code: 6}
	}
	places := wantedPlaces(v)
	for i := 1; i < len(places); i++ {
		if places[i] != places[i-1]+1 {
			return impl.ViewResult{Code: 13}
		}
	}
	out := viewOf(shape, make([]int64, len(shape)), v.Offset)
	for i := range shape {
		if len(places) > 0 {
			out.Strides[i] = wantedCount(shape[i+1:]).Int64()
		}
	}
	return impl.ViewResult{View: out}
}

func wantedBroadcast(v impl.View, shape []int64) impl.ViewResult {
	if !wantedValid(v) {
		return impl.ViewResult{Code: 12}
	}
	if !wantedGood(shape) || len(shape) < len(v.Shape) {
		return impl.ViewResult{Code: 6}
	}
	out := viewOf(shape, make([]int64, len(shape)), v.Offset)
	more := len(shape) - len(v.Shape)
	for i, n := range v.Shape {
		if n == shape[more+i] {
			out.Strides[more+i] = v.Strides[i]
		} else if n != 1 {
			return impl.ViewResult{Code: 6}
		}
	}
	return impl.ViewResult{View: out}
}

func wantedBroadcastPlaces(v impl.View, shape []int64) []int64 {
	out := []int64{}
	for _, index := range indexesOf(shape) {
		ofV := slices.Clone(index[len(shape)-len(v.Shape):])
		for i, n := range v.Shape {
			if n == 1 {
				ofV[i] = 0
			}
		}
		out = append(out, placeOf(v, ofV))
	}
	return out
}

func wantedBroadcastShape(a []int64, b []int64) impl.ShapeResult {
	if !wantedGood(a) || !wantedGood(b) {
		return impl.ShapeResult{Code: 6}
	}
	for len(a) < len(b) {
		a = slices.Insert(slices.Clone(a), 0, 1)
	}
	for len(b) < len(a) {
		b = slices.Insert(slices.Clone(b), 0, 1)
	}
	shape := slices.Clone(a)
	for i, n := range b {
		if a[i] == 1 {
			shape[i] = n
		} else if n != 1 && n != a[i] {
			return impl.ShapeResult{Code: 6}
		}
	}
	if !wantedGood(shape) {
		return impl.ShapeResult{Code: 6}
	}
	return impl.ShapeResult{Shape: shape}
}
