package tests

import (
	"math"
	"slices"

	"loop.example/s16388/impl"
)

func ones(n int) []int64 {
	return slices.Repeat([]int64{1}, n)
}

func list(numbers ...int64) []int64 {
	return numbers
}

// chosenViews: every number of axes, both ends of all ranges, and each kind of stride that the document speaks of.
func chosenViews() []impl.View {
	return []impl.View{
		viewOf(nil, nil, 0), viewOf(list(), list(), 4095),
		viewOf(list(0), list(4096), 4096), viewOf(list(0), list(-4096), 0), viewOf(list(0), list(0), 7), viewOf(list(1), list(4096), 4095), viewOf(list(1), list(-4096), 0),
		viewOf(list(4096), list(1), 0), viewOf(list(4096), list(-1), 4095), viewOf(list(4096), list(0), 4095), viewOf(list(2), list(4095), 0), viewOf(list(2), list(-4095), 4095),
		viewOf(list(5), list(3), 2), viewOf(list(5), list(-3), 14), viewOf(list(7), list(1), 4089), viewOf(list(7), list(-1), 6), viewOf(list(3), list(0), 9),
		viewOf(list(2, 3), list(3, 1), 1), viewOf(list(3, 2), list(1, 3), 1), viewOf(list(2, 3), list(-3, -1), 5), viewOf(list(2, 3), list(0, 1), 4), viewOf(list(2, 3), list(1, 0), 4),
		viewOf(list(2, 3), list(0, 0), 4), viewOf(list(2, 3), list(1, 1), 4), viewOf(list(2, 3), list(2, 1), 4), viewOf(list(3, 4), list(5, 1), 0), viewOf(list(3, 4), list(8, 2), 1),
		viewOf(list(1, 5), list(-4096, 1), 0), viewOf(list(5, 1), list(1, 4096), 3), viewOf(list(1, 1), list(17, -17), 8), viewOf(list(2, 3), list(-1, 1), 1), viewOf(list(64, 64), list(64, 1), 0),
		viewOf(list(64, 64), list(1, 64), 0), viewOf(list(64, 64), list(-64, -1), 4095), viewOf(list(0, 4096), list(4096, -4096), 4096), viewOf(list(4096, 0), list(1, 1), 0),
		viewOf(list(2, 3, 4), list(12, 4, 1), 2), viewOf(list(2, 3, 4), list(12, -4, 1), 20), viewOf(list(2, 1, 4), list(4, 999, 1), 2), viewOf(list(4, 3, 2), list(1, 4, 12), 0),
		viewOf(list(1, 1, 6), list(0, -3, 1), 11), viewOf(list(2, 0, 3), list(0, 5, -7), 100), viewOf(list(16, 16, 16), list(256, 16, 1), 0), viewOf(list(4096, 4096, 0), list(4096, 4096, 4096), 4096),
		viewOf(list(2, 3, 2, 2), list(12, 4, 2, 1), 5), viewOf(list(2, 3, 2, 2), list(1, 2, 6, 12), 0), viewOf(list(2, 3, 2, 2), list(-12, 4, -2, 1), 20), viewOf(list(1, 4, 1, 3), list(-9, 3, 4096, 1), 1),
		viewOf(list(1, 1, 1, 1), list(4096, -4096, 0, 1), 4095), viewOf(list(8, 8, 8, 8), list(512, 64, 8, 1), 0), viewOf(list(8, 8, 8, 8), list(1, 8, 64, 512), 0), viewOf(list(2, 2, 2, 2), list(0, 0, 0, 0), 3),
		viewOf(list(0, 0, 0, 0), list(1, 2, 3, 4), 4096), viewOf(list(4096, 4096, 4096, 0), list(-1, 1, -1, 1), 0), viewOf(list(0, 4096, 4096, 4096), list(1, 1, 1, 1), 12),
		viewOf(list(2, 2, 2, 2), list(3, 5, 7, 11), 4), viewOf(list(2, 2, 2, 2), list(2, 2, 1, 1), 4), viewOf(list(3, 2, 1, 2), list(4, 2, 50, 1), 0),
	}
}

func drawnView(d *draws) impl.View {
	for {
		dims := d.between(0, 4)
		v := viewOf(make([]int64, dims), make([]int64, dims), 0)
		next := int64(1)
		for i := dims - 1; i >= 0; i-- {
			v.Shape[i] = d.oneOf(list(1, 1, 2, 2, 3, 4, 5, 7, 8))
			if d.below(40) == 0 {
				v.Shape[i] = 0
			}
			stride := d.oneOf(list(next, next, next, -next, 0, 1, -1, 2, 3, -5, 7, next+1))
			v.Strides[i] = stride
			next = stride * v.Shape[i]
		}
		if !slices.ContainsFunc(v.Strides, func(s int64) bool { return s < -4096 || s > 4096 }) && drawOffset(d, &v) {
			return v
		}
	}
}

// drawOffset puts the view somewhere into the 4096 places, often at an end of them.
func drawOffset(d *draws, v *impl.View) bool {
	places := wantedPlaces(*v)
	if len(places) == 0 {
		v.Offset = d.between(0, 4096)
		return true
	}
	low, high := -slices.Min(places), 4095-slices.Max(places)
	if low > high {
		return false
	}
	v.Offset = d.oneOf(list(low, high, d.between(low, high)))
	return true
}

func validViews() []impl.View {
	out := chosenViews()
	d := draws(5)
	for range 300 {
		out = append(out, drawnView(&d))
	}
	return out
}

func smallViews(most int64) []impl.View {
	var out []impl.View
	for _, v := range validViews() {
		if wantedCount(v.Shape).Int64() <= most {
			out = append(out, v)
		}
	}
	return out
}

func invalidViews() []impl.View {
	out := []impl.View{
		viewOf(nil, nil, -1), viewOf(nil, nil, 4096), viewOf(nil, nil, 4097), viewOf(nil, nil, math.MinInt64), viewOf(nil, nil, math.MaxInt64), viewOf(nil, list(1), 0),
		viewOf(list(0), list(0), -1), viewOf(list(0), list(0), 4097), viewOf(list(0), list(4097), 0), viewOf(list(0), list(-4097), 0), viewOf(list(0), nil, 0), viewOf(list(0), list(0, 0), 0),
		viewOf(list(-1), list(0), 0), viewOf(list(-1, 0), list(0, 0), 0), viewOf(list(-1, -1), list(0, 0), 0), viewOf(list(0, 4097), list(0, 0), 0), viewOf(list(4097, 0), list(0, 0), 0), viewOf(list(4097), list(0), 0),
		viewOf(list(1), list(0), 4096), viewOf(list(1), list(4097), 0), viewOf(list(1), list(-4097), 0), viewOf(list(1), list(math.MinInt64), 0), viewOf(list(1), list(math.MaxInt64), 0),
		viewOf(list(4096), list(1), 1), viewOf(list(4096), list(-1), 4094), viewOf(list(4096), list(-1), 4096), viewOf(list(2), list(4096), 0), viewOf(list(2), list(-4096), 4095), viewOf(list(2), list(-1), 0),
		viewOf(list(64, 65), list(0, 0), 0), viewOf(list(4096, 2), list(0, 0), 0), viewOf(list(8, 8, 8, 9), list(0, 0, 0, 0), 0), viewOf(list(4096, 4096, 4096, 4096), list(0, 0, 0, 0), 0),
		viewOf(list(2, 2), list(1), 0), viewOf(list(2), list(1, 1), 0), viewOf(ones(5), ones(5), 0), viewOf(list(0, 1, 1, 1, 1), ones(5), 0), viewOf(ones(4), ones(5), 0), viewOf(ones(5), ones(4), 0),
		viewOf(slices.Repeat(list(2), 64), slices.Repeat(list(0), 64), 0), viewOf(slices.Repeat(list(2), 65), slices.Repeat(list(0), 65), 0), viewOf(make([]int64, 1000), make([]int64, 1000), 0),
		viewOf(list(1<<32, 1<<32), list(0, 0), 0), viewOf(list(1<<62, 4), list(0, 0), 0), viewOf(list(math.MinInt64, 2), list(0, 0), 0), viewOf(list(1<<32, 1<<31, 2, 1), list(0, 0, 0, 0), 0),
		viewOf(list(math.MaxInt64), list(0), 0), viewOf(list(math.MinInt64), list(0), 0), viewOf(list(0, math.MaxInt64), list(0, 0), 0), viewOf(list(3, 2), list(-2, 5), 3), viewOf(list(3, 2), list(-2, 5), 4091),
	}
	d := draws(6)
	for range 200 {
		out = append(out, besideValid(drawnView(&d))...)
	}
	return out
}

// besideValid: the view moved by one place too far to both sides, and with a number at one axis just out of its range.
func besideValid(v impl.View) []impl.View {
	low, high := int64(-1), int64(4097)
	if places := wantedPlaces(v); len(places) > 0 {
		low, high = v.Offset-slices.Min(places)-1, v.Offset+4096-slices.Max(places)
	}
	out := []impl.View{viewOf(v.Shape, v.Strides, low), viewOf(v.Shape, v.Strides, high), viewOf(v.Shape, append(slices.Clone(v.Strides), 0), v.Offset)}
	for i := range v.Shape {
		for _, wrong := range []int64{-4097, 4097} {
			strides := slices.Clone(v.Strides)
			strides[i] = wrong
			shape := slices.Clone(v.Shape)
			shape[i] = wrong
			out = append(out, viewOf(v.Shape, strides, v.Offset), viewOf(shape, v.Strides, v.Offset))
		}
		out = append(out, viewOf(v.Shape, v.Strides[1:], v.Offset), viewOf(v.Shape[1:], v.Strides, v.Offset))
	}
	return out
}

func goodShapes() [][]int64 {
	return [][]int64{
		nil, list(0), list(1), list(2), list(3), list(5), list(6), list(7), list(12), list(24), list(4095), list(4096), list(1, 1), list(0, 0), list(1, 0), list(0, 1), list(0, 4096), list(4096, 0), list(3, 0), list(2, 3), list(3, 2),
		list(1, 6), list(6, 1), list(2, 1), list(1, 2), list(5, 1), list(1, 5), list(4, 3), list(64, 64), list(1, 64), list(64, 1), list(4096, 1), list(1, 4096), list(2, 2048), list(2, 3, 4), list(4, 3, 2), list(1, 1, 6), list(2, 1, 4),
		list(1, 3, 1), list(16, 16, 16), list(4096, 4096, 0), list(0, 4096, 4096), list(2, 0, 3), list(1, 4096, 1), list(1, 1, 1), list(2, 2, 6), list(2, 3, 2, 2), list(1, 3, 1, 2), list(1, 1, 1, 1), list(8, 8, 8, 8), list(0, 0, 0, 0),
		list(4096, 4096, 4096, 0), list(0, 4096, 4096, 4096), list(4096, 1, 1, 1), list(1, 1, 1, 4096), list(2, 2, 2, 2), list(7, 1, 2, 3), list(1, 2, 1, 12), list(3, 2, 1, 2), list(2, 4, 2, 3),
	}
}

func badShapes() [][]int64 {
	return [][]int64{
		list(-1), list(4097), list(-1, 0), list(0, -1), list(0, 4097), list(4097, 0), list(64, 65), list(2, 2049), list(4096, 2), list(4096, 4096, 4096, 4096), list(8, 8, 8, 9), ones(5), list(0, 0, 0, 0, 0), list(0, 1, 1, 1, 1),
		list(1, 1, 1, 1, 6), list(-2, -3), list(-1, -1), list(1<<32, 1<<32), list(1<<62, 4), list(1<<32, 1<<31, 2, 1), list(1<<33, 1<<31), list(math.MinInt64, 2), list(math.MaxInt64), list(math.MinInt64),
		slices.Repeat(list(2), 64), slices.Repeat(list(2), 65), make([]int64, 1000), ones(1000),
	}
}

func someShapes() [][]int64 {
	return append(goodShapes(), badShapes()...)
}
