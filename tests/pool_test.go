package tests

import (
	"math"
	"slices"
	"testing"

	"loop.example/s16388/impl"
)

func taking(size int64) impl.PoolOp {
	return impl.PoolOp{Kind: 1, Size: size, Block: 3}
}

func giving(block int64) impl.PoolOp {
	return impl.PoolOp{Kind: 2, Size: 3, Block: block}
}

func answersOf(rows [][3]int64) []impl.PoolAnswer {
	var out []impl.PoolAnswer
	for _, r := range rows {
		out = append(out, impl.PoolAnswer{Code: r[0], Block: r[1], Live: r[2]})
	}
	return out
}

type wantedBlock struct {
	size int64
	live bool
}

func wantedRound(n int64) int64 {
	for _, size := range list(16, 32, 64, 128, 256, 512, 1024, 2048, 4096, 8192, 16384, 32768, 65536) {
		if n >= 0 && n <= size {
			return size
		}
	}
	return -1
}

func wantedLive(blocks []wantedBlock) int64 {
	sum := int64(0)
	for _, b := range blocks {
		if b.live {
			sum += b.size
		}
	}
	return sum
}

// wantedPool keeps no more than the list of blocks, and looks through all of it each time.
func wantedPool(budget int64, ops []impl.PoolOp) []impl.PoolAnswer {
	var blocks []wantedBlock
	var out []impl.PoolAnswer
	for _, op := range ops {
		code, number := int64(3), int64(-1)
		size := wantedRound(op.Size)
		switch {
		case op.Kind == 1 && size == -1:
			code = 16
		case op.Kind == 1 && wantedLive(blocks)+size > budget:
			code = 17
		case op.Kind == 1:
			code = 0
			number = int64(slices.Index(blocks, wantedBlock{size, false}))
			if number == -1 {
				number = int64(len(blocks))
				blocks = append(blocks, wantedBlock{size: size})
			}
			blocks[number].live = true
		case op.Kind == 2 && (op.Block < 0 || op.Block >= int64(len(blocks)) || !blocks[op.Block].live):
			code = 15
		case op.Kind == 2:
			code, number = 0, op.Block
			blocks[number].live = false
		}
		out = append(out, impl.PoolAnswer{Code: code, Block: number, Live: wantedLive(blocks)})
	}
	return out
}

// P6
func TestNumbersOfThePool(t *testing.T) {
	got := []int64{impl.MinBlock, impl.MaxBytes, impl.MaxPoolOps, impl.PoolTake, impl.PoolGive, impl.ErrOp, impl.ErrHandle, impl.ErrSize, impl.ErrBudget}
	if !slices.Equal(got, list(16, 65536, 2000, 1, 2, 3, 15, 16, 17)) {
		t.Errorf("%v", got)
	}
}

// P6
func TestRoundBytes(t *testing.T) {
	for n := int64(-20); n <= 65600; n++ {
		if got := impl.RoundBytes(n); got != wantedRound(n) {
			t.Errorf("RoundBytes(%d) = %d", n, got)
		}
	}
	for _, n := range list(math.MinInt64, -65536, 1<<17, 1<<32, 1<<32+16, 1<<62, math.MaxInt64) {
		if got := impl.RoundBytes(n); got != -1 {
			t.Errorf("RoundBytes(%d) = %d", n, got)
		}
	}
	for n, want := range map[int64]int64{-1: -1, 0: 16, 1: 16, 15: 16, 16: 16, 17: 32, 32: 32, 33: 64, 4096: 4096, 32769: 65536, 65535: 65536, 65536: 65536, 65537: -1} {
		if got := impl.RoundBytes(n); got != want {
			t.Errorf("RoundBytes(%d) = %d", n, got)
		}
	}
}

// P6
func TestPoolRunEdges(t *testing.T) {
	cases := []struct {
		name   string
		budget int64
		ops    []impl.PoolOp
		want   []impl.PoolAnswer
	}{
		{"nothing to do", 100, nil, nil},
		{"the smallest number of the size", 1000,
			[]impl.PoolOp{taking(16), taking(16), taking(16), taking(17), giving(2), giving(0), giving(3), giving(1), taking(1), taking(2), taking(3), taking(4), taking(20)},
			answersOf([][3]int64{{0, 0, 16}, {0, 1, 32}, {0, 2, 48}, {0, 3, 80}, {0, 2, 64}, {0, 0, 48}, {0, 3, 16}, {0, 1, 0}, {0, 0, 16}, {0, 1, 32}, {0, 2, 48}, {0, 4, 64}, {0, 3, 96}})},
		{"a larger free block is not taken", 1000, []impl.PoolOp{taking(64), giving(0), taking(32), taking(33), taking(0)},
			answersOf([][3]int64{{0, 0, 64}, {0, 0, 0}, {0, 1, 32}, {0, 0, 96}, {0, 2, 112}})},
		{"given twice", 1000, []impl.PoolOp{taking(1), giving(0), giving(0), taking(1), taking(1), giving(0), giving(0)},
			answersOf([][3]int64{{0, 0, 16}, {0, 0, 0}, {15, -1, 0}, {0, 0, 16}, {0, 1, 32}, {0, 0, 16}, {15, -1, 16}})},
		{"no such block", 1000, []impl.PoolOp{giving(0), giving(-1), taking(1), giving(1), giving(-1), giving(math.MaxInt64), giving(math.MinInt64), giving(1 << 32)},
			answersOf([][3]int64{{15, -1, 0}, {15, -1, 0}, {0, 0, 16}, {15, -1, 16}, {15, -1, 16}, {15, -1, 16}, {15, -1, 16}, {15, -1, 16}})},
		{"no such size", 1000, []impl.PoolOp{taking(-1), taking(65537), taking(math.MinInt64), taking(math.MaxInt64), taking(0)},
			answersOf([][3]int64{{16, -1, 0}, {16, -1, 0}, {16, -1, 0}, {16, -1, 0}, {0, 0, 16}})},
		{"no such kind", 1000, []impl.PoolOp{{Kind: 0}, {Kind: 3, Size: 16}, {Kind: -1}, taking(1), {Kind: math.MaxInt64}, {Kind: math.MinInt64, Block: 0}, {Kind: 1<<32 + 1}},
			answersOf([][3]int64{{3, -1, 0}, {3, -1, 0}, {3, -1, 0}, {0, 0, 16}, {3, -1, 16}, {3, -1, 16}, {3, -1, 16}})},
		{"budget met exactly", 48, []impl.PoolOp{taking(32), taking(17), taking(16), taking(0), giving(0), taking(32), taking(0)},
			answersOf([][3]int64{{0, 0, 32}, {17, -1, 32}, {0, 1, 48}, {17, -1, 48}, {0, 0, 16}, {0, 0, 48}, {17, -1, 48}})},
		{"budget one short", 47, []impl.PoolOp{taking(32), taking(16), giving(0), taking(16), taking(16), taking(1)},
			answersOf([][3]int64{{0, 0, 32}, {17, -1, 32}, {0, 0, 0}, {0, 1, 16}, {0, 2, 32}, {17, -1, 32}})},
		{"budget 0", 0, []impl.PoolOp{taking(0), taking(65537), giving(0)}, answersOf([][3]int64{{17, -1, 0}, {16, -1, 0}, {15, -1, 0}})},
		{"budget below 0", -16, []impl.PoolOp{taking(0), giving(0)}, answersOf([][3]int64{{17, -1, 0}, {15, -1, 0}})},
		{"smallest budget", math.MinInt64, []impl.PoolOp{taking(0), taking(65536), taking(-1)}, answersOf([][3]int64{{17, -1, 0}, {17, -1, 0}, {16, -1, 0}})},
		{"largest budget", math.MaxInt64, []impl.PoolOp{taking(0), taking(65536)}, answersOf([][3]int64{{0, 0, 16}, {0, 1, 65552}})},
		{"size before budget", 0, []impl.PoolOp{taking(65537)}, answersOf([][3]int64{{16, -1, 0}})},
		{"a take that is refused takes no free block", 64, []impl.PoolOp{taking(64), giving(0), taking(16), taking(64), giving(1), taking(64)},
			answersOf([][3]int64{{0, 0, 64}, {0, 0, 0}, {0, 1, 16}, {17, -1, 16}, {0, 1, 0}, {0, 0, 64}})},
	}
	for _, c := range cases {
		if got := impl.PoolRun(c.budget, c.ops); !slices.Equal(got, c.want) {
			t.Errorf("%s: %v, want %v", c.name, got, c.want)
		}
		if want := wantedPool(c.budget, c.ops); !slices.Equal(want, c.want) {
			t.Errorf("%s: the oracle says %v", c.name, want)
		}
	}
}

func drawnOps(d *draws, n int, sizes []int64) []impl.PoolOp {
	var ops []impl.PoolOp
	for range n {
		kind := d.oneOf(list(1, 1, 1, 1, 2, 2, 2, 2, d.between(-1, 4)))
		ops = append(ops, impl.PoolOp{Kind: kind, Size: d.oneOf(sizes), Block: d.between(-1, 40)})
	}
	return ops
}

// checkPool: what the promise says, read off the answers alone.
func checkPool(t *testing.T, budget int64, ops []impl.PoolOp, answers []impl.PoolAnswer) {
	t.Helper()
	sizes := map[int64]int64{}
	live := map[int64]int64{}
	sum := int64(0)
	for i, a := range answers {
		before := sum
		if a.Code == 0 && ops[i].Kind == 1 {
			size := wantedRound(ops[i].Size)
			if old, made := sizes[a.Block]; live[a.Block] != 0 || made && old != size || !made && a.Block != int64(len(sizes)) {
				t.Fatalf("answer %d: %v is live, has another size or is not the next number", i, a)
			}
			sizes[a.Block], live[a.Block] = size, size
			sum += size
		}
		if a.Code == 0 && ops[i].Kind == 2 {
			if live[a.Block] == 0 || a.Block != ops[i].Block {
				t.Fatalf("answer %d: %v is not live", i, a)
			}
			sum -= live[a.Block]
			delete(live, a.Block)
		}
		if a.Live != sum || sum > before && sum > budget || a.Code != 0 && a.Block != -1 {
			t.Fatalf("answer %d: %v with %d live bytes and budget %d", i, a, sum, budget)
		}
	}
}

// P6
func TestPoolRunOfManyOperations(t *testing.T) {
	d := draws(11)
	codes := map[int64]int{}
	for round := range 60 {
		sizes := [][]int64{list(0, 1, 16, 17, 32, 33), list(-1, 0, 15, 17, 40, 100, 65537), list(16, 4096, 4097, 65535, 65536, 65537)}[round%3]
		budget := d.oneOf(list(-1, 0, 15, 16, 17, 64, 200, 511, 512, 513, 5000, 200000, math.MaxInt64))
		ops := drawnOps(&d, 300, sizes)
		given := slices.Clone(ops)
		got := impl.PoolRun(budget, ops)
		if want := wantedPool(budget, ops); !slices.Equal(got, want) {
			t.Errorf("budget %d, %v: %v, want %v", budget, ops, got, want)
		}
		if !slices.Equal(ops, given) {
			t.Error("the operations were written to")
		}
		checkPool(t, budget, ops, got)
		for _, a := range got {
			codes[a.Code]++
		}
	}
	for _, code := range list(0, 3, 15, 16, 17) {
		if codes[code] < 100 {
			t.Errorf("code %d came only %d times", code, codes[code])
		}
	}
}

// P6
func TestPoolRunAtItsLimit(t *testing.T) {
	var ops []impl.PoolOp
	for range 1000 {
		ops = append(ops, taking(65536))
	}
	for i := range int64(1000) {
		ops = append(ops, giving((i*7)%1000))
	}
	got := impl.PoolRun(1000*65536, ops)
	if !slices.Equal(got, wantedPool(1000*65536, ops)) || len(got) != 2000 || got[999].Live != 1000*65536 || got[1999].Live != 0 {
		t.Error("2000 operations")
	}
	if got := impl.PoolRun(1000*65536, append(ops, taking(0))); len(got) != 0 {
		t.Errorf("2001 operations have %d answers", len(got))
	}
	many := slices.Repeat([]impl.PoolOp{taking(65536)}, 2000)
	if got := impl.PoolRun(math.MaxInt64, many); len(got) != 2000 || got[1999] != (impl.PoolAnswer{Block: 1999, Live: 2000 * 65536}) {
		t.Error("2000 blocks")
	}
}

// P6: a pool begins empty at every call.
func TestPoolRunKeepsNothing(t *testing.T) {
	ops := []impl.PoolOp{taking(16), taking(32), giving(0)}
	first := impl.PoolRun(48, ops)
	second := impl.PoolRun(48, ops)
	if !slices.Equal(first, second) {
		t.Errorf("%v, then %v", first, second)
	}
	first[0] = impl.PoolAnswer{Code: 99}
	if second[0] == first[0] {
		t.Error("two answers share memory")
	}
}
