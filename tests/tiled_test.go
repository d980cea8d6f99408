package tests

import (
	"math"
	"runtime"
	"slices"
	"testing"

	"loop.example/s16388/impl"
)

func picksOf(n int, way func(i int) int64) []int64 {
	out := []int64{}
	for i := range n {
		out = append(out, way(i))
	}
	return out
}

func checkTiled(t *testing.T, c arrayCall) {
	t.Helper()
	got := impl.Tiled(c.heap, c.op, c.a, c.b, c.out, c.tile, c.workers, c.picks)
	want := impl.Elementwise(c.heap, c.op, c.a, c.b, c.out)
	if got.Code != 0 || want.Code != 0 || !sameHeap(got.Heap, want.Heap) {
		t.Errorf("tile %d, %d workers: code %d, another heap than that of Elementwise", c.tile, c.workers, got.Code)
	}
	n := int64(len(wantedPlaces(c.out.View)))
	tiles := n / c.tile
	if n%c.tile > 0 {
		tiles++
	}
	if !slices.Equal(got.Turns, wantedSchedule(tiles, c.workers, c.picks)) || !slices.Equal(got.Turns, impl.Schedule(tiles, c.workers, c.picks)) {
		t.Errorf("tile %d, %d workers: other turns than those of Schedule", c.tile, c.workers)
	}
	checkTurns(t, tiles, c.workers, got.Turns)
}

// P10
func TestTiledOfAllTilesAndWorkers(t *testing.T) {
	picks := [][]int64{nil, list(3), list(-1, -2, 5, 64, math.MinInt64, math.MaxInt64), picksOf(200, func(i int) int64 { return int64(i*i - 50) })}
	for _, n := range list(0, 1, 2, 7, 64, 100) {
		for _, tile := range list(1, 2, 3, 7, 64, 99, 100, 101, 4096) {
			for workers := int64(1); workers <= 64; workers += 7 {
				c := arrayCall{heap: heapOf(countingStore(6, 120)), op: 3, a: dense(0, 3, n), b: arrayOf(0, viewOf(list(n), list(-1), 119)), out: dense(0, 1, n), tile: tile, workers: workers, picks: picks[(n+tile+workers)%4]}
				checkTiled(t, c)
			}
		}
	}
}

// P10
func TestTiledAtItsLimits(t *testing.T) {
	h := heapOf(countingStore(6, 4096), floatStore(8, make([]float64, 4096)...))
	turned := arrayOf(0, viewOf(list(64, 64), list(1, 64), 0))
	for _, picks := range [][]int64{nil, picksOf(10000, func(i int) int64 { return int64(i * 13) }), picksOf(10000, func(i int) int64 { return int64(-i / 3) })} {
		for _, tile := range list(1, 5, 63, 4095, 4096) {
			for _, workers := range list(1, 2, 63, 64) {
				checkTiled(t, arrayCall{heap: h, op: 1, a: turned, b: dense(0, 5), out: dense(1, 0, 64, 64), tile: tile, workers: workers, picks: picks})
				checkTiled(t, arrayCall{heap: h, op: 2, a: turned, b: dense(0, 0, 64), out: dense(0, 0, 64, 64), tile: tile, workers: workers, picks: picks})
			}
		}
	}
}

// P10
func TestTiledSizes(t *testing.T) {
	cases := []struct {
		tile    int64
		workers int64
		picks   int
		want    int64
	}{
		{1, 1, 0, 0}, {4096, 64, 10000, 0}, {0, 1, 0, 16}, {-1, 1, 0, 16}, {4097, 1, 0, 16}, {math.MinInt64, 1, 0, 16}, {math.MaxInt64, 1, 0, 16}, {1 << 32, 1, 0, 16},
		{1, 0, 0, 16}, {1, -1, 0, 16}, {1, 65, 0, 16}, {1, math.MinInt64, 0, 16}, {1, math.MaxInt64, 0, 16}, {1, 1<<32 + 1, 0, 16}, {1, 1, 10001, 16}, {0, 0, 10001, 16},
	}
	for _, c := range cases {
		for _, n := range list(0, 5) {
			call := goodCall("Tiled")
			call.a, call.out = dense(0, 0, n), dense(0, 0, n)
			call.tile, call.workers, call.picks = c.tile, c.workers, make([]int64, c.picks)
			if got := checkCall(t, call); got.Code != c.want {
				t.Errorf("%v: code %d", c, got.Code)
			}
			// Every other code is smaller.
			call.out.Store = 1
			if got := checkCall(t, call); got.Code != 10 {
				t.Errorf("%v: code %d ahead of 10", c, got.Code)
			}
		}
	}
}

// P10: with more workers than tiles too, and with none to do.
func TestTiledLeavesNoWorkerBehind(t *testing.T) {
	before := runtime.NumGoroutine()
	for i := range int64(60) {
		call := goodCall("Tiled")
		call.workers = 64
		call.a, call.out = dense(0, 0, i%7), dense(0, 0, i%7)
		checkCall(t, call)
	}
	// A worker that has told that it is done may need a moment more to be gone.
	for range 10000000 {
		if runtime.NumGoroutine() <= before {
			return
		}
		runtime.Gosched()
	}
	t.Errorf("%d goroutines, %d before", runtime.NumGoroutine(), before)
}

// P10: the workers of one call and those of another have nothing to do with each other.
func TestTiledManyAtOnce(t *testing.T) {
	d := draws(8)
	done := make(chan bool)
	calls := []arrayCall{}
	for range 40 {
		calls = append(calls, drawnCall(&d, "Tiled"))
	}
	for _, c := range calls {
		go func() {
			done <- sameResult(c.run(), c.wanted())
		}()
	}
	for range calls {
		if !<-done {
			t.Error("another answer")
		}
	}
}
