package tests

import (
	"fmt"
	"slices"
	"strings"
	"testing"

	"loop.example/s16388/impl"
)

func answersTo(script string, budget int64) []string {
	return wantedLines(string(impl.RunScript([]byte(script), budget)))
}

// checkScript holds the answers against the oracle, and answers them a line each.
func checkScript(t *testing.T, script string, budget int64) []string {
	t.Helper()
	got, want := string(impl.RunScript([]byte(script), budget)), wantedScript(script, budget)
	answers := wantedLines(got)
	if got != want {
		lines, wanted := wantedLines(script), wantedLines(want)
		for i := range wanted {
			if i >= len(answers) || answers[i] != wanted[i] {
				t.Errorf("budget %d, line %d of\n%s\n: %q", budget, i, strings.Join(lines[:min(i+1, len(lines))], "\n"), answers[min(i, len(answers)):])
				t.Errorf("want %q", wanted[i])
				return answers
			}
		}
		t.Errorf("%q: %q, want %q", script, got, want)
	}
	return answers
}

func joined(lines ...string) string {
	return strings.Join(lines, "\n") + "\n"
}

// Of the 14 stores of setupLines four have 32 bytes and ten have 16, so 64 bytes are left.
const setupBudget = 4*32 + 10*16 + 64

// setupLines make arrays of many dtypes and shapes. Not writable are 4, 13, 14, 17 and 19; the handles from 21 on are free.
var setupLines = []string{
	"new 0 8 2 2", "fill 0 1p0 1p1 3p0 1p2",
	"new 1 8 2", "fill 1 5p0 11p0",
	"new 2 5 4", "fill 2 4 1 3 1",
	"new 3 1 4", "fill 3 1 0 0 1",
	"broadcast 4 2 2 4",
	"new 5 9 2", "fill 5 1p0,1p1 0,-0",
	"new 6 5 3 0",
	"new 7 5 3", "fill 7 7 8 9",
	"new 8 8 2 2",
	"new 9 6 4",
	"slice 10 2 0 3 -9 -1",
	"transpose 11 0 1 0",
	"new 12 7 2 2",
	"broadcast 13 0 2 2 2",
	"broadcast 14 1 2 2",
	"new 15 1 2 2",
	"new 16 8 2",
	"new 18 8 1", "broadcast 17 18 2",
	"new 20 5 1", "broadcast 19 20 4",
}

// goodLines has for each word lines that are answered without an error behind setupLines, with as few and as many fields as the table allows.
var goodLines = map[string][]string{
	"new":       {"new 63 5 2 3", "new 21 1", "new 21 2 1 1 1 1", "new 21 8 0", "new 21 5 16"},
	"fill":      {"fill 7 1 2 3", "fill 6", "fill 10 4 3 2 1"},
	"slice":     {"slice 63 2 0 0 4 2", "slice 21 10 0 -1 -1000000 -1", "slice 21 0 1 1000000 -1000000 1000000"},
	"transpose": {"transpose 63 0 1 0", "transpose 21 13 2 0 1", "transpose 21 2 0"},
	"reshape":   {"reshape 63 2 2 2", "reshape 21 18", "reshape 21 2 1 2 1 2", "reshape 21 6 0 4096 4096"},
	"broadcast": {"broadcast 63 2 3 4", "broadcast 21 2 4", "broadcast 21 18 2 2 2 2", "broadcast 21 20 0"},
	"op":        {"op 1 9 2 3", "op 7 3 2 10", "op 1 2 10 2"},
	"tiled":     {"tiled 1 9 2 3 3 2 1 0", "tiled 1 9 2 3 4096 64", "tiled 10 2 10 2 1 1 -5"},
	"unary":     {"unary 1 9 2", "unary 4 2 10"},
	"where":     {"where 9 3 2 10", "where 2 3 20 10"},
	"take":      {"take 7 2 -1 0 1", "take 2 10 0 1 2 3"},
	"put":       {"put 2 7 0 -1 1", "put 2 20", "put 10 2 0 1 2 3"},
	"reduce":    {"reduce 1 1 0 1", "reduce 5 2 4 0", "reduce 3 7 6 1"},
	"scan":      {"scan 1 0 0 1", "scan 6 2 10 0"},
	"sort":      {"sort 2 0", "sort 11 1"},
	"argsort":   {"argsort 9 2 0", "argsort 10 2 0"},
	"matmul":    {"matmul 0 0 11", "matmul 8 12 15"},
	"solve":     {"solve 1 0 1", "solve 16 11 1"},
	"free":      {"free 2", "free 4"},
	"show":      {"show 2", "show 13"},
	"bytes":     {"bytes"},
}

// ownCodes has for each word the codes that the call itself gives behind setupLines, alone and several at once.
var ownCodes = map[string]map[string]int64{
	"new": {"new 63 0": 4, "new 63 10": 4, "new 63 -1 -1": 4, "new 63 10 4097": 4, "new 63 999999999999999999": 4, "new 63 5 -1": 6, "new 63 5 4097": 6, "new 63 5 65 64": 6, "new 63 5 2 2 2 513": 6,
		"new 63 9 4097": 6, "new 63 5 4096 4096 4096 4096": 6, "new 63 5 0 4097": 6, "new 63 5 17": 17, "new 63 8 4096": 17, "new 63 9 4096": 17, "new 63 9 5": 17},
	"fill": {"fill 2": 6, "fill 2 1 2 3": 6, "fill 2 1 2 3 4 5": 6, "fill 6 0": 6, "fill 2 1 2 3 x": 14, "fill 2 2147483648 2 3 4": 14, "fill 2 1p0 2 3 4": 14, "fill 2 1 2 03 4": 14, "fill 2 1 -0 3 4": 14, "fill 2 1 2 , 4": 14,
		"fill 4 1 1 1 1 1 1 1 1": 9, "fill 4 1 1 1 1 1 1 1 x": 14, "fill 4 1 1 1 1 1 1 x": 6, "fill 4": 6, "fill 1 1p0 1p1101": 14, "fill 3 0 1 2 0": 14, "fill 5 0,0 0": 14},
	"slice":     {"slice 63 2 1 0 4 1": 5, "slice 63 2 -1 0 4 1": 5, "slice 63 2 1 0 4 0": 5, "slice 63 2 0 0 4 0": 8, "slice 63 2 0 1000001 4 1": 8, "slice 63 2 0 0 -1000001 1": 8, "slice 63 2 0 0 4 1000001": 8, "slice 63 20 0 0 0 -1000001": 8},
	"transpose": {"transpose 63 0": 5, "transpose 63 0 0": 5, "transpose 63 0 0 0": 5, "transpose 63 0 1 2": 5, "transpose 63 0 1 0 2": 5, "transpose 63 0 -1 0": 5, "transpose 63 0 1 0 2 3 4 5": 5},
	"reshape":   {"reshape 63 2": 6, "reshape 63 2 3": 6, "reshape 63 2 1 1 1 1 4": 6, "reshape 63 2 -2 -2": 6, "reshape 63 10 5": 6, "reshape 63 11 4": 13, "reshape 63 10 2 2": 13, "reshape 63 4 8": 13},
	"broadcast": {"broadcast 63 2": 6, "broadcast 63 2 3": 6, "broadcast 63 2 1": 6, "broadcast 63 0 2": 6, "broadcast 63 2 1 1 1 1 4": 6, "broadcast 63 2 1025 4": 6, "broadcast 63 2 -1 4": 6},
	"op":        {"op 0 9 2 3": 3, "op 11 9 2 3": 3, "op -1 9 2 3": 3, "op 0 7 0 13": 3, "op 4 3 3 3": 4, "op 9 0 0 0": 4, "op 5 5 5 5": 4, "op 4 7 3 3": 4, "op 1 7 2 2": 6, "op 1 4 4 0": 6, "op 1 4 2 2": 6, "op 1 4 4 4": 9, "op 1 15 0 0": 10, "op 1 3 2 2": 10, "op 1 0 5 0": 10},
	"tiled":     {"tiled 1 9 2 3 0 1": 16, "tiled 1 9 2 3 4097 1": 16, "tiled 1 9 2 3 1 0": 16, "tiled 1 9 2 3 1 65": 16, "tiled 1 9 2 3 -1 -1 7": 16, "tiled 0 9 2 3 0 0": 3, "tiled 4 3 3 3 0 0": 4, "tiled 1 7 2 2 0 0": 6, "tiled 1 4 4 4 0 0": 9, "tiled 1 3 2 2 0 0": 10},
	"unary":     {"unary 0 9 2": 3, "unary 5 9 2": 3, "unary 5 4 0": 3, "unary 2 0 0": 4, "unary 1 3 3": 4, "unary 3 5 5": 4, "unary 1 7 2": 6, "unary 1 4 2": 9, "unary 1 3 2": 10},
	"where":     {"where 9 2 2 2": 4, "where 7 2 2 2": 4, "where 7 3 2 2": 6, "where 9 3 2 7": 6, "where 4 3 4 4": 9, "where 3 3 2 2": 10},
	"take":      {"take 7 2 0 1": 6, "take 7 2": 6, "take 0 2 0 1 2 3": 6, "take 7 2 4": 6, "take 7 2 0 1 4": 8, "take 7 2 -5 0 0": 8, "take 7 6 0 0 0": 8, "take 19 2 0 1 2 3": 9, "take 3 2 0 1 2 3": 10, "take 3 2 0 1 2 4": 8},
	"put":       {"put 2 7 0 1": 6, "put 2 7": 6, "put 2 7 9": 6, "put 2 7 0 1 4": 8, "put 2 7 -5 0 1": 8, "put 6 20 0": 8, "put 19 7 0 1 2": 9, "put 3 7 0 1 2": 10, "put 19 7 0 1 4": 8},
	"reduce":    {"reduce 0 1 0 1": 3, "reduce 2 1 0 1": 3, "reduce 4 1 0 1": 3, "reduce 7 1 0 1": 3, "reduce 2 1 5 3": 3, "reduce 5 1 5 0": 4, "reduce 6 1 5 3": 4, "reduce 1 1 0 2": 5, "reduce 1 1 0 -1": 5, "reduce 1 2 0 0": 6, "reduce 5 7 6 1": 7, "reduce 6 7 6 1": 7, "reduce 1 17 0 0": 9, "reduce 1 3 4 0": 10},
	"scan":      {"scan 0 0 0 0": 3, "scan 7 0 0 9": 3, "scan 6 5 5 0": 4, "scan 1 0 0 2": 5, "scan 1 1 0 0": 6, "scan 1 4 4 0": 9, "scan 1 3 2 0": 10},
	"sort":      {"sort 2 1": 5, "sort 2 -1": 5, "sort 4 2": 5, "sort 4 0": 9},
	"argsort":   {"argsort 9 2 1": 5, "argsort 7 2 1": 5, "argsort 7 2 0": 6, "argsort 4 4 0": 9, "argsort 3 2 0": 10},
	"matmul":    {"matmul 0 2 0": 6, "matmul 0 0 2": 6, "matmul 2 0 0": 6, "matmul 0 6 0": 6, "matmul 14 0 0": 9, "matmul 15 0 0": 10, "matmul 0 5 0": 6},
	"solve":     {"solve 1 12 1": 4, "solve 1 0 2": 4, "solve 2 0 1": 4, "solve 1 12 2": 4, "solve 1 0 0": 6, "solve 0 0 1": 6, "solve 1 1 1": 6, "solve 17 0 1": 9, "solve 17 8 1": 9, "solve 1 8 1": 11},
}

// notFields are lines that are not made of fields, or whose first field is no word.
func notFields() []string {
	out := []string{"", " ", "  ", "0", "NEW", "byte", "bytess", "Bytes", "bytes,", "#", "new,0,5", "fold 1 2", "array 1 0 0", "error", "tile 1 9 2 3 3 2", "Op 1 9 2 3", "-", "x y z"}
	for word := range scriptForms {
		good := goodLines[word][0]
		out = append(out, " "+good, good+" ", good+"  ", "  "+good, good+"\r", "\t"+good, good+"\x00", good+" \x7f", good+"\x1f", good+"\x80", good+" \xff", good+"é", good+" \v", strings.ToUpper(word)+good[len(word):], word+word+good[len(word):])
		if strings.Contains(good, " ") {
			out = append(out, strings.Replace(good, " ", "  ", 1), strings.Replace(good, " ", "\t", 1), strings.Replace(good, " ", "\u00a0", 1), strings.Replace(good, " ", " \t ", 1))
		}
	}
	slices.Sort(out)
	return out
}

// rankOf is the place of a code in the order in which a line's errors are looked for; the codes of the call itself come last.
func rankOf(code int64) int {
	if at := slices.Index(list(18, 19, 20, 15, 21), code); at >= 0 {
		return at
	}
	return 5
}

// fieldFault puts another text in place of one field behind the word.
type fieldFault struct {
	at   int
	text string
	code int64
}

func (f fieldFault) in(line string) string {
	fields := strings.Split(line, " ")
	fields[f.at+1] = f.text
	return strings.Join(fields, " ")
}

func faultsOf(line string) []fieldFault {
	fields := strings.Split(line, " ")
	var out []fieldFault
	for i := range fields[1:] {
		kind := scriptForms[fields[0]].kind(i)
		if kind == "c" {
			continue
		}
		for _, text := range []string{"x", "-", "+1", "01", "-0", "00", "-01", "1p0", "1.0", "0x1", "1_0", "--1", "1-", "1000000000000000000", "-1000000000000000000", "9223372036854775807", "9223372036854775808", "18446744073709551616", strings.Repeat("9", 60)} {
			out = append(out, fieldFault{i, text, 20})
		}
		if kind == "n" {
			continue
		}
		for _, text := range []string{"-1", "64", "-64", "999999999999999999", "-999999999999999999", "4294967296", "256"} {
			out = append(out, fieldFault{i, text, 15})
		}
		if kind == "H" {
			out = append(out, fieldFault{i, "62", 15}, fieldFault{i, "21", 15})
		} else {
			out = append(out, fieldFault{i, "0", 21}, fieldFault{i, "19", 21})
		}
	}
	return out
}

// scriptDraw makes scripts of mostly good lines, by what the oracle knows of the state.
type scriptDraw struct {
	*draws
	state *scriptState
	lines []string
}

var scriptWords = []string{
	"new", "new", "new", "new", "new", "fill", "fill", "fill", "fill", "slice", "slice", "transpose", "reshape", "reshape", "broadcast", "op", "op", "op", "tiled", "tiled", "unary", "unary", "where", "where", "take", "put",
	"reduce", "reduce", "scan", "scan", "sort", "argsort", "matmul", "matmul", "solve", "solve", "solve", "free", "free", "show", "show", "show", "bytes",
}

var scriptShapes = [][]int64{nil, {1}, {2}, {2}, {3}, {4}, {6}, {0}, {2, 2}, {2, 2}, {2, 3}, {3, 2}, {3, 3}, {2, 0}, {1, 4}, {2, 1, 2}, {2, 3, 2}, {1, 2, 3, 1}}

func (g *scriptDraw) newHandle() int64 {
	for range 20 {
		handle := g.oneOf(list(g.below(14), g.below(14), g.below(14), 63))
		if _, live := g.state.handles[handle]; !live {
			return handle
		}
	}
	return g.below(66)
}

// handleWhere is a live handle whose array fits; where there is none, and now and then where there is, it is any live one or a number near the handles.
func (g *scriptDraw) handleWhere(fits func(a scriptArray, dt int64) bool) int64 {
	var good []int64
	for _, handle := range g.state.liveHandles() {
		a := g.state.handles[handle]
		if fits(a, g.state.stores[a.store].DType) {
			good = append(good, handle)
		}
	}
	live := g.state.liveHandles()
	switch {
	case len(live) == 0 || g.below(30) == 0:
		return g.below(15)
	case len(good) == 0 || g.below(20) == 0:
		return g.oneOf(live)
	}
	return g.oneOf(good)
}

func (g *scriptDraw) anyHandle() int64 {
	return g.handleWhere(func(scriptArray, int64) bool { return true })
}

func (g *scriptDraw) writable() int64 {
	return g.handleWhere(func(a scriptArray, dt int64) bool { return wantedWritable(a.view) })
}

func (g *scriptDraw) shaped(fits func(shape []int64) bool) int64 {
	return g.handleWhere(func(a scriptArray, dt int64) bool { return fits(a.view.Shape) })
}

func (g *scriptDraw) shapeOf(handle int64) []int64 {
	return g.state.handles[handle].view.Shape
}

func (g *scriptDraw) stretching(shape []int64) int64 {
	return g.shaped(func(from []int64) bool { return wantedBroadcast(dense(0, 0, from...).View, shape).Code == 0 })
}

// cells are of the dtype; floats are often small and whole, so that systems can be solved.
func (g *scriptDraw) cellTexts(dt int64, n int) []string {
	var out []string
	samples := someSamples(dt, 50)
	plain := g.below(3) > 0
	for range n {
		c := g.cellOf(samples)
		if plain && dt > 1 {
			c = wantedConvert(2, dt, integerCell(g.between(-9, 9)))
		}
		out = append(out, wantedText(dt, c))
	}
	return out
}

func (g *scriptDraw) line() string {
	word := scriptWords[g.below(int64(len(scriptWords)))]
	switch word {
	case "new":
		dt := g.oneOf(list(8, 8, 8, 5, 6, 1, 1, g.between(1, 9), g.between(1, 9)))
		return text(word, g.newHandle(), dt, scriptShapes[g.below(int64(len(scriptShapes)))])
	case "fill":
		a := g.writable()
		from := g.state.handles[a]
		if len(g.state.stores) == 0 {
			return text(word, a)
		}
		return text(word, a, g.cellTexts(g.state.stores[from.store].DType, len(wantedPlaces(from.view))))
	case "slice", "transpose", "reshape", "broadcast":
		return g.viewLine(word)
	case "free", "show":
		return text(word, g.anyHandle())
	case "bytes":
		return word
	case "reduce", "scan", "sort", "argsort":
		return g.laneLine(word)
	case "matmul", "solve":
		return g.matrixLine(word)
	}
	return g.elementLine(word)
}

func (g *scriptDraw) viewLine(word string) string {
	h := g.anyHandle()
	shape := slices.Clone(g.shapeOf(h))
	switch word {
	case "slice":
		return text(word, g.newHandle(), h, g.below(int64(max(len(shape), 1))), g.between(-4, 4), g.between(-4, 7), g.oneOf(list(1, 1, 1, 2, -1, -1, -2, 0)))
	case "transpose":
		var perm []int64
		for i := range shape {
			perm = slices.Insert(perm, int(g.below(int64(i+1))), int64(i))
		}
		return text(word, g.newHandle(), h, perm)
	case "reshape":
		if g.below(3) == 0 {
			shape = slices.Insert(shape, int(g.below(int64(len(shape)+1))), 1)
		}
		for _, to := range scriptShapes {
			if wantedCount(to).Cmp(wantedCount(shape)) == 0 && g.below(3) == 0 {
				shape = to
			}
		}
		return text(word, g.newHandle(), h, shape)
	}
	for i, n := range shape {
		if n == 1 {
			shape[i] = g.between(0, 3)
		}
	}
	if g.below(2) == 0 {
		shape = slices.Insert(shape, 0, g.between(1, 3))
	}
	return text(word, g.newHandle(), h, shape)
}

func (g *scriptDraw) indexes(count int64, n int64) []int64 {
	if n == 0 {
		return nil
	}
	return drawnIndexes(g.draws, count, n)
}

func (g *scriptDraw) elementLine(word string) string {
	out := g.writable()
	shape := g.shapeOf(out)
	a, b := g.stretching(shape), g.stretching(shape)
	if g.below(2) == 0 {
		b = a
	}
	switch word {
	case "op":
		return text(word, g.oneOf(list(1, 1, 2, 3, 5, 7, 8, g.between(0, 11))), out, a, b)
	case "tiled":
		return text(word, g.oneOf(list(1, 1, 2, 3, 5, 7, 8, g.between(0, 11))), out, a, b, g.oneOf(list(1, 2, 3, 4096, g.between(0, 4))), g.oneOf(list(1, 2, 3, 64, g.between(0, 3))), g.indexes(g.below(6), 5))
	case "unary":
		return text(word, g.between(0, 5), out, a)
	case "where":
		cond := g.handleWhere(func(c scriptArray, dt int64) bool {
			return dt == 1 && wantedBroadcast(dense(0, 0, c.view.Shape...).View, shape).Code == 0
		})
		return text(word, out, cond, a, b)
	case "take":
		out = g.handleWhere(func(a scriptArray, dt int64) bool { return len(a.view.Shape) == 1 && wantedWritable(a.view) })
		a = g.anyHandle()
		return text(word, out, a, g.indexes(wantedCount(g.shapeOf(out)).Int64(), wantedCount(g.shapeOf(a)).Int64()))
	}
	values := g.anyHandle()
	return text(word, out, values, g.indexes(g.oneOf(list(wantedCount(g.shapeOf(values)).Int64(), g.below(5))), wantedCount(shape).Int64()))
}

func (g *scriptDraw) laneLine(word string) string {
	a := g.shaped(func(shape []int64) bool { return len(shape) > 0 })
	shape := g.shapeOf(a)
	axis := g.oneOf(list(g.below(int64(max(len(shape), 1))), g.between(-1, 3)))
	if word == "sort" {
		return text(word, a, axis)
	}
	if word == "reduce" && axis >= 0 && axis < int64(len(shape)) {
		shape = withoutAxis(shape, axis)
	}
	out := g.handleWhere(func(a scriptArray, dt int64) bool { return slices.Equal(a.view.Shape, shape) && wantedWritable(a.view) })
	if word == "argsort" {
		return text(word, out, a, axis)
	}
	return text(word, g.oneOf(list(1, 1, 3, 5, 6, g.between(0, 11))), out, a, axis)
}

func (g *scriptDraw) matrixLine(word string) string {
	square := word == "solve"
	a := g.handleWhere(func(a scriptArray, dt int64) bool {
		s := a.view.Shape
		return len(s) == 2 && (!square || s[0] == s[1] && dt == 8)
	})
	rows, inner := int64(2), int64(2)
	if s := g.shapeOf(a); len(s) == 2 {
		rows, inner = s[0], s[1]
	}
	if square {
		line := func() int64 {
			return g.handleWhere(func(a scriptArray, dt int64) bool { return slices.Equal(a.view.Shape, list(rows)) && dt == 8 })
		}
		return text(word, line(), a, line())
	}
	b := g.shaped(func(s []int64) bool { return len(s) == 2 && s[0] == inner })
	columns := inner
	if s := g.shapeOf(b); len(s) == 2 {
		columns = s[1]
	}
	out := g.handleWhere(func(a scriptArray, dt int64) bool {
		return slices.Equal(a.view.Shape, list(rows, columns)) && wantedWritable(a.view)
	})
	return text(word, out, a, b)
}

// text puts words, numbers and lists of both into one line.
func text(parts ...any) string {
	var out []string
	for _, part := range parts {
		switch p := part.(type) {
		case []int64:
			for _, n := range p {
				out = append(out, fmt.Sprint(n))
			}
		case []string:
			out = append(out, p...)
		default:
			out = append(out, fmt.Sprint(p))
		}
	}
	return strings.Join(out, " ")
}

// spoilt puts something wrong into a line, most often something that can still be right.
func (g *scriptDraw) spoilt(line string) string {
	fields := strings.Split(line, " ")
	at := g.below(int64(len(fields)))
	odd := []string{"x", "0", "1", "-1", "2", "63", "64", "01", "-0", "1p0", "nan", "5", "12", "999999999999999999", "1000000000000000000", "", "\t", "show", "new", "-0,0"}
	other := odd[g.below(int64(len(odd)))]
	switch g.below(4) {
	case 0:
		fields = slices.Delete(fields, int(at), int(at)+1)
	case 1:
		fields = slices.Insert(fields, int(at), other)
	default:
		fields[at] = other
	}
	return strings.Join(fields, " ")
}

// drawnScript ends with a look at all that is there.
func drawnScript(d *draws, n int, budget int64) *scriptDraw {
	g := &scriptDraw{draws: d, state: newScriptState(budget)}
	// Of lines that are all drawn, few make both a square matrix and a list for it.
	first := []string{}
	if d.below(2) == 0 {
		first = []string{"new 0 8 3 3", "fill 0 1p0 1p1 3p0 1p2 5p0 3p1 7p0 1p3 5p1", "new 1 8 2 3", "slice 2 1 0 1 2 1", "reshape 3 2 3"}
	}
	for i := range n {
		line := g.line()
		if i < len(first) {
			line = first[i]
		} else if g.below(8) == 0 {
			line = g.spoilt(line)
		}
		g.lines = append(g.lines, line)
		g.state.answer(line)
	}
	g.lines = append(g.lines, lookLines()...)
	return g
}

func lookLines() []string {
	out := []string{"bytes"}
	for handle := range 64 {
		out = append(out, text("show", handle))
	}
	return out
}
