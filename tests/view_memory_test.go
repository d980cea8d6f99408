package tests

import (
	"math"
	"slices"
	"testing"

	"loop.example/s16388/impl"
)

// roomy has room behind its last number, with marks there, so that a write into an argument's room is seen too.
func roomy(numbers []int64) []int64 {
	out := append(slices.Clone(numbers), 71, 72, 73)
	return out[:len(numbers)]
}

func roomyView(v impl.View) impl.View {
	return viewOf(roomy(v.Shape), roomy(v.Strides), v.Offset)
}

func wholeOf(numbers []int64) []int64 {
	return slices.Clone(numbers[:cap(numbers)])
}

func scribble(numbers []int64) {
	whole := numbers[:cap(numbers)]
	for i := range whole {
		whole[i] = math.MinInt64 + 5
	}
}

// checkLists: the arguments are as they were, and writing into one list of the answer is seen in no other list.
func checkLists(t *testing.T, name string, args [][]int64, call func() [][]int64) {
	t.Helper()
	var before [][]int64
	for _, a := range args {
		before = append(before, wholeOf(a))
	}
	first := call()
	answers := call()
	for i := range answers {
		scribble(answers[i])
		for j := range answers {
			if j > i && !slices.Equal(first[j], answers[j]) {
				t.Errorf("%s: lists %d and %d of the answer share memory", name, i, j)
			}
		}
	}
	for i, a := range args {
		if !slices.Equal(wholeOf(a), before[i]) {
			t.Errorf("%s: argument %d is now %v, was %v", name, i, wholeOf(a), before[i])
		}
	}
	for i, list := range call() {
		if !slices.Equal(first[i], list) {
			t.Errorf("%s: another answer, %v, was %v", name, list, first[i])
		}
	}
}

func listsOfView(r impl.ViewResult) [][]int64 {
	return [][]int64{r.View.Shape, r.View.Strides}
}

// P5
func TestViewsAreNewMemory(t *testing.T) {
	views := append(smallViews(24)[:120], invalidViews()[:40]...)
	for _, given := range views {
		v := roomyView(given)
		perm := []int64{}
		for i := range v.Shape {
			perm = append(perm, int64(len(v.Shape)-1-i))
		}
		perm, shape := roomy(perm), roomy(v.Shape)
		args := [][]int64{v.Shape, v.Strides, perm, shape}
		checkLists(t, "Offsets", args, func() [][]int64 { return [][]int64{impl.Offsets(v)} })
		checkLists(t, "Slice", args, func() [][]int64 { return listsOfView(impl.Slice(v, 0, 0, 2, 1)) })
		checkLists(t, "Slice backward", args, func() [][]int64 { return listsOfView(impl.Slice(v, 0, -1, -1000000, -1)) })
		checkLists(t, "Transpose", args, func() [][]int64 { return listsOfView(impl.Transpose(v, perm)) })
		checkLists(t, "Reshape", args, func() [][]int64 { return listsOfView(impl.Reshape(v, shape)) })
		checkLists(t, "Broadcast", args, func() [][]int64 { return listsOfView(impl.Broadcast(v, shape)) })
		checkLists(t, "BroadcastShape", args, func() [][]int64 { return [][]int64{impl.BroadcastShape(v.Shape, shape).Shape} })
		checkLists(t, "Writable and Overlap", args, func() [][]int64 {
			impl.Writable(v)
			impl.Overlap(v, v)
			impl.ValidView(v)
			return nil
		})
	}
}
