package tests

import (
	"math"
	"slices"
	"testing"

	"loop.example/s16388/impl"
)

func turnsOf(rows [][3]int64) []impl.Turn {
	var out []impl.Turn
	for _, r := range rows {
		out = append(out, impl.Turn{Worker: r[0], Tile: r[1], Done: r[2] == 1})
	}
	return out
}

func wantedSchedule(tiles int64, workers int64, picks []int64) []impl.Turn {
	out := []impl.Turn{}
	holds := make([]int64, workers)
	next, finished := int64(0), int64(0)
	for finished < tiles {
		w := int64(0)
		if len(out) < len(picks) {
			w = picks[len(out)] % workers
		}
		for w < 0 {
			w += workers
		}
		for holds[w] == 0 && next == tiles {
			w++
			if w == workers {
				w = 0
			}
		}
		if holds[w] > 0 {
			out = append(out, impl.Turn{Worker: w, Tile: holds[w] - 1, Done: true})
			holds[w] = 0
			finished++
		} else {
			out = append(out, impl.Turn{Worker: w, Tile: next})
			next++
			holds[w] = next
		}
	}
	return out
}

// checkTurns: what the promise says, read off the turns alone.
func checkTurns(t *testing.T, tiles int64, workers int64, turns []impl.Turn) {
	t.Helper()
	if int64(len(turns)) != 2*tiles {
		t.Fatalf("%d tiles, %d workers: %d turns", tiles, workers, len(turns))
	}
	next := int64(0)
	holder := map[int64]int64{}
	finished := map[int64]int64{}
	for i, turn := range turns {
		w, holds := holder[turn.Tile]
		switch {
		case turn.Worker < 0 || turn.Worker >= workers || turn.Tile < 0 || turn.Tile >= tiles:
			t.Fatalf("turn %d: %+v is out of range", i, turn)
		case turn.Done && (!holds || w != turn.Worker || finished[turn.Tile] != 0):
			t.Fatalf("turn %d: %+v finishes what it does not hold", i, turn)
		case !turn.Done && turn.Tile != next:
			t.Fatalf("turn %d: %+v is not the next tile", i, turn)
		case turn.Done:
			finished[turn.Tile] = 1
		default:
			holder[turn.Tile] = turn.Worker
			next++
		}
	}
	if int64(len(finished)) != tiles || next != tiles {
		t.Fatalf("%d tiles: %d taken, %d finished", tiles, next, len(finished))
	}
}

// P7
func TestNumbersOfTheSchedule(t *testing.T) {
	if got := []int64{impl.MaxWorkers, impl.MaxTiles, impl.MaxPicks}; !slices.Equal(got, list(64, 4096, 10000)) {
		t.Errorf("%v", got)
	}
}

// P7
func TestScheduleEdges(t *testing.T) {
	cases := []struct {
		name    string
		tiles   int64
		workers int64
		picks   []int64
		want    []impl.Turn
	}{
		{"no tiles", 0, 3, list(1, 2), nil},
		{"one worker", 2, 1, list(5, -5, 0), turnsOf([][3]int64{{0, 0, 0}, {0, 0, 1}, {0, 1, 0}, {0, 1, 1}})},
		{"more workers than tiles", 1, 64, list(63, 62), turnsOf([][3]int64{{63, 0, 0}, {63, 0, 1}})},
		{"falls on to the next that can", 2, 4, list(1, 2, 3, 3), turnsOf([][3]int64{{1, 0, 0}, {2, 1, 0}, {1, 0, 1}, {2, 1, 1}})},
		{"falls on past the last worker", 2, 4, list(0, 2, 3, 0), turnsOf([][3]int64{{0, 0, 0}, {2, 1, 0}, {0, 0, 1}, {2, 1, 1}})},
		{"falls on over several", 1, 5, list(4, 0), turnsOf([][3]int64{{4, 0, 0}, {4, 0, 1}})},
		{"its own tile ahead of another's", 2, 3, list(0, 1, 1, 1), turnsOf([][3]int64{{0, 0, 0}, {1, 1, 0}, {1, 1, 1}, {0, 0, 1}})},
		{"picks run out", 3, 3, list(2), turnsOf([][3]int64{{2, 0, 0}, {0, 1, 0}, {0, 1, 1}, {0, 2, 0}, {0, 2, 1}, {2, 0, 1}})},
		{"picks below 0", 2, 3, list(-1, -2, -3, -4), turnsOf([][3]int64{{2, 0, 0}, {1, 1, 0}, {1, 1, 1}, {2, 0, 1}})},
		{"picks of all bits", 2, 64, list(math.MinInt64, math.MaxInt64, math.MinInt64+1, math.MinInt64), turnsOf([][3]int64{{0, 0, 0}, {63, 1, 0}, {63, 1, 1}, {0, 0, 1}})},
		{"picks of all bits, three workers", 2, 3, list(math.MinInt64, math.MaxInt64, math.MaxInt64, math.MinInt64), turnsOf([][3]int64{{1, 0, 0}, {1, 0, 1}, {1, 1, 0}, {1, 1, 1}})},
	}
	for _, c := range cases {
		if got := impl.Schedule(c.tiles, c.workers, c.picks); !slices.Equal(got, c.want) {
			t.Errorf("%s: %v, want %v", c.name, got, c.want)
		}
		if want := wantedSchedule(c.tiles, c.workers, c.picks); !slices.Equal(want, c.want) {
			t.Errorf("%s: the oracle says %v", c.name, want)
		}
	}
}

// P7
func TestScheduleOfAllShortPicks(t *testing.T) {
	for tiles := range int64(4) {
		for workers := int64(1); workers <= 3; workers++ {
			for length := range int(2*tiles) + 1 {
				for _, picks := range listsOf(length, 0, workers-1) {
					got := impl.Schedule(tiles, workers, picks)
					if !slices.Equal(got, wantedSchedule(tiles, workers, picks)) {
						t.Errorf("%d tiles, %d workers, %v: %v", tiles, workers, picks, got)
					}
					checkTurns(t, tiles, workers, got)
				}
			}
		}
	}
}

// P7
func TestScheduleOfManyPicks(t *testing.T) {
	d := draws(13)
	for range 300 {
		tiles := d.oneOf(list(0, 1, 2, 5, 63, 64, 65, d.between(0, 200)))
		workers := d.oneOf(list(1, 2, 3, 63, 64, d.between(1, 64)))
		picks := []int64{}
		for range d.between(0, 2*tiles+3) {
			picks = append(picks, d.oneOf(list(d.between(0, 64), d.between(-200, 200), math.MaxInt64, math.MinInt64)))
		}
		given := slices.Clone(picks)
		got := impl.Schedule(tiles, workers, picks)
		if !slices.Equal(got, wantedSchedule(tiles, workers, picks)) {
			t.Errorf("%d tiles, %d workers, %v: %v", tiles, workers, picks, got)
		}
		if !slices.Equal(picks, given) {
			t.Error("the picks were written to")
		}
		checkTurns(t, tiles, workers, got)
	}
}

// P7
func TestScheduleAtItsLimits(t *testing.T) {
	picks := make([]int64, 10001)
	for i := range picks {
		picks[i] = int64(i*i) - 5000
	}
	for _, workers := range list(1, 2, 63, 64) {
		got := impl.Schedule(4096, workers, picks[:10000])
		checkTurns(t, 4096, workers, got)
		if !slices.Equal(got, wantedSchedule(4096, workers, picks[:10000])) {
			t.Errorf("4096 tiles, %d workers", workers)
		}
	}
	refused := []struct {
		tiles   int64
		workers int64
		picks   []int64
	}{
		{-1, 1, nil}, {4097, 1, nil}, {math.MinInt64, 1, nil}, {math.MaxInt64, 1, nil}, {1 << 62, 1, nil}, {1, 0, nil}, {1, -1, nil}, {1, 65, nil}, {1, math.MinInt64, nil}, {1, math.MaxInt64, nil}, {1, 1, picks}, {0, 0, nil},
	}
	for _, c := range refused {
		if got := impl.Schedule(c.tiles, c.workers, c.picks); len(got) != 0 {
			t.Errorf("%d tiles, %d workers, %d picks: %d turns", c.tiles, c.workers, len(c.picks), len(got))
		}
	}
}
