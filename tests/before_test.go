package tests

import (
	"math"
	"testing"

	"loop.example/s16388/impl"
)

func wantedBefore(dt int64, a impl.Cell, b impl.Cell) bool {
	switch kinds[dt] {
	case 2:
		return rankedBefore(a.F, b.F)
	case 3:
		return rankedBefore(a.F, b.F) || !rankedBefore(b.F, a.F) && rankedBefore(a.G, b.G)
	}
	return a.I < b.I
}

// P4
func TestBeforeIsOneOrTheOther(t *testing.T) {
	for _, dt := range dtypes {
		cells := samples(dt)
		for _, a := range cells {
			for _, b := range cells {
				ab, ba := impl.Before(dt, a, b), impl.Before(dt, b, a)
				if sameCell(a, b) && (ab || ba) {
					t.Errorf("dtype %d: %v is before itself", dt, a)
				}
				if !sameCell(a, b) && ab == ba {
					t.Errorf("dtype %d: %v and %v: both %v", dt, a, b, ab)
				}
				if ab != wantedBefore(dt, a, b) {
					t.Errorf("dtype %d: %v before %v: %v", dt, a, b, ab)
				}
			}
		}
	}
}

// P4
func TestBeforeIsTransitive(t *testing.T) {
	for _, dt := range dtypes {
		cells := samples(dt)
		before := make([][]bool, len(cells))
		for i, a := range cells {
			before[i] = make([]bool, len(cells))
			for j, b := range cells {
				before[i][j] = impl.Before(dt, a, b)
			}
		}
		for i := range cells {
			for j := range cells {
				for k := range cells {
					if before[i][j] && before[j][k] && !before[i][k] {
						t.Fatalf("dtype %d: %v, %v, %v", dt, cells[i], cells[j], cells[k])
					}
				}
			}
		}
	}
}

// P4
func TestBeforeInAscendingLists(t *testing.T) {
	floats := []float64{-inf, -math.MaxFloat32, -1, -math.SmallestNonzeroFloat32, minusZero, 0, math.SmallestNonzeroFloat32, 1, math.MaxFloat32, inf, nan}
	var reals, pairs []impl.Cell
	for _, x := range floats {
		reals = append(reals, floatCell(x))
		for _, y := range floats {
			pairs = append(pairs, complexCell(x, y))
		}
	}
	lists := map[int64][]impl.Cell{
		1: {integerCell(0), integerCell(1)},
		2: {integerCell(-128), integerCell(-1), integerCell(0), integerCell(127)},
		3: {integerCell(0), integerCell(127), integerCell(128), integerCell(255)},
		6: {integerCell(math.MinInt64), integerCell(-1), integerCell(0), integerCell(math.MaxInt64)},
		7: reals,
		8: reals,
		9: pairs,
	}
	for dt, list := range lists {
		for i := range list {
			for j := range list {
				if g := impl.Before(dt, list[i], list[j]); g != (i < j) {
					t.Errorf("dtype %d: %v before %v: %v", dt, list[i], list[j], g)
				}
			}
		}
	}
}

// P4
func TestBeforeOfWrongInputs(t *testing.T) {
	for _, dt := range dtypes {
		for _, bad := range invalidCells(dt) {
			for _, c := range append(samples(dt), bad, impl.Cell{I: -1, F: -1}) {
				if impl.Before(dt, bad, c) || impl.Before(dt, c, bad) {
					t.Errorf("dtype %d: %v and %v", dt, bad, c)
				}
			}
		}
	}
	for _, dt := range noDTypes {
		for _, pair := range [][2]impl.Cell{{{}, {I: 1}}, {{}, {F: 1}}, {{}, {F: 1, G: 1}}} {
			if impl.Before(dt, pair[0], pair[1]) || impl.Before(dt, pair[1], pair[0]) {
				t.Errorf("%d is no dtype: %v", dt, pair)
			}
		}
	}
}
