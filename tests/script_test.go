package tests

import (
	"bytes"
	"fmt"
	"math"
	"slices"
	"strings"
	"testing"

	"loop.example/s16388/impl"
)

// P16: the example of the document, byte for byte.
func TestScriptOfTheDocument(t *testing.T) {
	script := "new 0 8 2 2\nfill 0 1p0 1p1 3p0 0\nslice 1 0 0 1 2 1\nop 1 1 1 1\nshow 0\nnew 2 6 8\nreduce 1 2 0 0\nfree 1\nbytes\nnew 0 5\n"
	want := "block 0\nok\nok\nok\narray 8 2 2 2 1p0 1p1 3p1 0\nerror 17\nerror 15\nok\nbytes 32\nerror 21\n"
	for _, s := range []string{script, strings.TrimSuffix(script, "\n")} {
		if got := string(impl.RunScript([]byte(s), 64)); got != want {
			t.Errorf("%q", got)
		}
		if got := wantedScript(s, 64); got != want {
			t.Errorf("the oracle says %q", got)
		}
	}
}

// P16: each kind of line by hand, with what it leaves behind.
func TestScriptsByHand(t *testing.T) {
	cases := []struct {
		name  string
		lines []string
		want  []string
	}{
		{"nothing", nil, nil},
		{"new arrays are all zero", []string{"new 0 1 2", "new 1 2", "new 2 3 0", "new 3 4 1 1", "new 4 5 1 1 1", "new 5 6 1 1 1 2", "new 6 7 2", "new 7 8 1", "new 8 9 2", "show 0", "show 1", "show 2", "show 3", "show 4", "show 5", "show 6", "show 7", "show 8", "bytes"},
			[]string{"block 0", "block 1", "block 2", "block 3", "block 4", "block 5", "block 6", "block 7", "block 8", "array 1 1 2 0 0", "array 2 0 0", "array 3 1 0", "array 4 2 1 1 0", "array 5 3 1 1 1 0", "array 6 4 1 1 1 2 0 0", "array 7 1 2 0 0", "array 8 1 1 0", "array 9 1 2 0,0 0,0", "bytes 160"}},
		{"fill goes by the view", []string{"new 0 2 2 3", "transpose 1 0 1 0", "fill 1 1 2 3 4 5 6", "show 0", "show 1", "slice 2 0 1 -1 -9 -2", "fill 2 7 8 9 -128", "show 0", "show 2"},
			[]string{"block 0", "ok", "ok", "array 2 2 2 3 1 3 5 2 4 6", "array 2 2 3 2 1 2 3 4 5 6", "ok", "ok", "array 2 2 2 3 8 3 7 -128 4 9", "array 2 2 2 2 7 8 9 -128"}},
		{"views of views", []string{"new 0 5 12", "fill 0 0 1 2 3 4 5 6 7 8 9 10 11", "reshape 1 0 3 4", "slice 2 1 1 1 4 2", "transpose 3 2 1 0", "slice 4 3 0 -1 -3 -1", "broadcast 5 4 2 2 3", "show 1", "show 2", "show 3", "show 4", "show 5", "reshape 6 3 6"},
			[]string{"block 0", "ok", "ok", "ok", "ok", "ok", "ok", "array 5 2 3 4 0 1 2 3 4 5 6 7 8 9 10 11", "array 5 2 3 2 1 3 5 7 9 11", "array 5 2 2 3 1 5 9 3 7 11", "array 5 2 2 3 3 7 11 1 5 9", "array 5 3 2 2 3 3 7 11 1 5 9 3 7 11 1 5 9", "error 13"}},
		{"out shares places with the inputs", []string{"new 0 5 5", "fill 0 1 2 3 4 5", "slice 1 0 0 0 4 1", "slice 2 0 0 1 5 1", "op 1 2 1 1", "show 0", "slice 3 0 0 4 -9 -1", "op 2 0 3 0", "show 0", "tiled 1 3 0 0 2 2 1", "show 0", "unary 1 3 0", "show 0", "take 3 0 0 1 2 3 4", "show 0", "put 0 3 4 3 2 1 0", "show 0", "scan 1 3 0 0", "show 0"},
			[]string{"block 0", "ok", "ok", "ok", "ok", "array 5 1 5 1 2 4 6 8", "ok", "ok", "array 5 1 5 7 4 0 -4 -7", "ok", "array 5 1 5 -14 -8 0 8 14", "ok", "array 5 1 5 -14 -8 0 8 14", "ok", "array 5 1 5 14 8 0 -8 -14", "ok", "array 5 1 5 14 8 0 -8 -14", "ok", "array 5 1 5 0 14 22 22 14"}},
		{"where, argsort and sort", []string{"new 0 1 4", "fill 0 1 0 0 1", "new 1 2 4", "fill 1 -1 -2 -3 -4", "new 2 3 1", "fill 2 200", "new 3 4 4", "where 3 0 1 2", "show 3", "argsort 1 3 0", "show 1", "sort 3 0", "show 3"},
			[]string{"block 0", "ok", "block 1", "ok", "block 2", "ok", "block 3", "ok", "array 4 1 4 -1 200 200 -4", "ok", "array 2 1 4 3 0 1 2", "ok", "array 4 1 4 -4 -1 200 200"}},
		{"folds and products", []string{"new 0 3 2 2", "fill 0 200 100 3 4", "new 1 6 2", "reduce 1 1 0 1", "show 1", "reduce 3 1 0 0", "show 1", "new 2 6 2 2", "scan 1 2 0 0", "show 2", "matmul 0 0 0", "show 0"},
			[]string{"block 0", "ok", "block 1", "ok", "array 6 1 2 300 7", "ok", "array 6 1 2 600 400", "block 2", "ok", "array 6 2 2 2 200 100 203 104", "ok", "array 3 2 2 2 108 176 100 60"}},
		{"a system", []string{"new 0 8 2 2", "fill 0 0 1p1 1p0 1p0", "new 1 8 2", "fill 1 1p2 3p0", "solve 1 0 1", "show 1", "show 0"},
			[]string{"block 0", "ok", "block 1", "ok", "ok", "array 8 1 2 1p0 1p1", "array 8 2 2 2 0 1p1 1p0 1p0"}},
		{"special floats", []string{"new 0 8 8", "fill 0 nan inf -inf 0 -0 1p-1074 9007199254740991p971 12p-1", "show 0", "new 1 7 8", "op 1 1 0 0", "show 1", "new 2 9 4", "fill 2 nan,-0 -0,1p-1074 inf,-inf 2p1,9007199254740992p0", "unary 4 2 2", "show 2"},
			[]string{"block 0", "ok", "array 8 1 8 nan inf -inf 0 -0 1p-1074 9007199254740991p971 3p1", "block 1", "ok", "array 7 1 8 nan inf -inf 0 -0 0 inf 3p2", "block 2", "ok", "ok", "array 9 1 4 nan,0 -0,-1p-1074 inf,inf 1p2,-1p53"}},
		{"the largest and the smallest of each integer dtype", []string{"new 0 2 2", "fill 0 -128 127", "new 1 3 2", "fill 1 0 255", "new 2 4 2", "fill 2 -32768 32767", "new 3 5 2", "fill 3 -2147483648 2147483647", "new 4 6 2", "fill 4 -9223372036854775808 9223372036854775807", "show 0", "show 1", "show 2", "show 3", "show 4"},
			[]string{"block 0", "ok", "block 1", "ok", "block 2", "ok", "block 3", "ok", "block 4", "ok", "array 2 1 2 -128 127", "array 3 1 2 0 255", "array 4 1 2 -32768 32767", "array 5 1 2 -2147483648 2147483647", "array 6 1 2 -9223372036854775808 9223372036854775807"}},
		{"a handle is free again", []string{"new 0 5 2", "fill 0 1 2", "free 0", "show 0", "new 0 5 2", "show 0", "free 0", "free 0"}, []string{"block 0", "ok", "ok", "error 15", "block 0", "array 5 1 2 0 0", "ok", "error 15"}},
		{"the last handle", []string{"new 63 5", "new 64 5", "show 63", "free 63", "bytes"}, []string{"block 0", "error 15", "array 5 0 0", "ok", "bytes 0"}},
		{"numbers of 18 digits", []string{"new 0 5 1", "take 0 0 999999999999999999", "take 0 0 1000000000000000000", "take 0 0 -999999999999999999", "take 0 0 -1000000000000000000", "take 0 0 -1"}, []string{"block 0", "error 8", "error 20", "error 8", "error 20", "ok"}},
		{"cells are no numbers", []string{"new 0 6 1", "fill 0 1000000000000000000", "show 0", "fill 0 -0", "fill 0 01", "fill 0 x"}, []string{"block 0", "ok", "array 6 1 1 1000000000000000000", "error 14", "error 14", "error 14"}},
		{"empty lines", []string{"", "bytes", "", ""}, []string{"error 18", "bytes 0", "error 18", "error 18"}},
	}
	for _, c := range cases {
		script := joined(c.lines...)
		if len(c.lines) == 0 {
			script = ""
		}
		if got := checkScript(t, script, 1000); !slices.Equal(got, c.want) {
			t.Errorf("%s: %q, want %q", c.name, got, c.want)
		}
	}
}

// P16: each word with code 0, with the fewest and the most fields.
func TestGoodLines(t *testing.T) {
	for word := range scriptForms {
		for _, line := range goodLines[word] {
			script := joined(append(append(slices.Clone(setupLines), line), lookLines()...)...)
			answers := checkScript(t, script, setupBudget)
			for i, answer := range answers[:len(setupLines)+1] {
				if strings.HasPrefix(answer, "error") {
					t.Errorf("%q: line %d has %q", line, i, answer)
				}
			}
		}
	}
}

// checkRefused holds the answer to one line behind setupLines against a code, and the oracle's too.
func checkRefused(t *testing.T, line string, code int64) {
	t.Helper()
	answers := checkScript(t, joined(append(slices.Clone(setupLines), line)...), setupBudget)
	if got := answers[len(answers)-1]; got != fmt.Sprint("error ", code) {
		t.Errorf("%q: %q, want code %d", line, got, code)
	}
}

// P16
func TestLinesThatAreNoFields(t *testing.T) {
	for _, line := range notFields() {
		checkRefused(t, line, 18)
	}
	for b := range 256 {
		if b == '\n' {
			continue
		}
		for _, line := range []string{"fill 3 0 0 0 " + string([]byte{byte(b)}), "by" + string([]byte{byte(b)}) + "tes"} {
			code := int64(18)
			switch {
			case line[0] == 'f' && (b == '0' || b == '1'):
				continue
			case line[0] == 'f' && b > 32 && b < 127:
				code = 14
			}
			checkRefused(t, line, code)
		}
	}
}

// wrongCounts has the line with too few and too many fields.
func wrongCounts(word string) []string {
	form := scriptForms[word]
	fields := strings.Split(goodLines[word][0], " ")
	var out []string
	for n := 1; n <= len(form.must); n++ {
		out = append(out, strings.Join(fields[:n], " "))
	}
	if form.most != noEnd {
		most := slices.Clone(fields)
		for len(most) < len(form.must)+form.most+1 {
			most = append(most, "1")
		}
		out = append(out, text(most, "1"), text(most, "x"), text(most, "1 1 1"))
	}
	return out
}

// P16
func TestWrongNumbersOfFields(t *testing.T) {
	for word := range scriptForms {
		for _, line := range wrongCounts(word) {
			checkRefused(t, line, 19)
		}
	}
}

// P16: each field that is a number with texts that are none, and handles that are not live, are none at all or are live.
func TestFieldFaults(t *testing.T) {
	for word := range scriptForms {
		good := goodLines[word][0]
		for _, fault := range faultsOf(good) {
			checkRefused(t, fault.in(good), fault.code)
		}
	}
}

// P16: two wrong fields in one line, and a wrong field in a line that the call itself refuses: the first of the order is answered.
func TestFaultsTogether(t *testing.T) {
	for word := range scriptForms {
		good := goodLines[word][0]
		faults := faultsOf(good)
		for i, a := range faults {
			for j, b := range faults {
				if a.at >= b.at || (i*7+j)%11 > 0 && a.code == b.code || (i+j)%3 > 0 {
					continue
				}
				code := a.code
				if rankOf(b.code) < rankOf(a.code) {
					code = b.code
				}
				checkRefused(t, b.in(a.in(good)), code)
			}
		}
		for line := range ownCodes[word] {
			for i, fault := range faultsOf(line) {
				if i%5 == 0 || fault.code == 21 {
					checkRefused(t, fault.in(line), fault.code)
				}
			}
		}
		for _, line := range wrongCounts(word) {
			checkRefused(t, line+"\t", 18)
			for _, fault := range faultsOf(line) {
				if fault.code == 20 && fault.text != "x" || fault.at >= len(scriptForms[word].must) {
					continue
				}
				checkRefused(t, fault.in(line), 19)
			}
		}
	}
}

// P16: the codes of the calls themselves.
func TestCodesOfTheCalls(t *testing.T) {
	for word, lines := range ownCodes {
		for line, code := range lines {
			if !strings.HasPrefix(line, word+" ") {
				t.Errorf("%q stands at %q", line, word)
			}
			checkRefused(t, line, code)
		}
	}
}

// P16: also the longest lists of picks, which only a long line can have.
func TestLongLines(t *testing.T) {
	setup := "new 0 5 3\nfill 0 1 2 3\nnew 1 5 4096\n"
	picks := strings.Repeat(" 1", 10000)
	cases := []struct {
		line string
		want string
	}{
		{"tiled 1 0 0 0 1 2" + picks, "ok"},
		{"tiled 1 0 0 0 1 2" + picks + " 1", "error 16"},
		{"tiled 0 0 0 0 1 2" + picks + " 1", "error 3"},
		{"fill 1" + strings.Repeat(" 7", 4096), "ok"},
		{"fill 1" + strings.Repeat(" 7", 4097), "error 6"},
		{"fill 1" + strings.Repeat(" 7", 4095), "error 6"},
		{"fill 1" + strings.Repeat(" 7", 4095) + " x", "error 14"},
		{"take 1 0" + strings.Repeat(" -1", 4096), "ok"},
		{"take 1 0" + strings.Repeat(" -1", 4095) + " 3", "error 8"},
		{"put 0 0" + strings.Repeat(" 2", 4096), "error 6"},
		{"reshape 2 1" + strings.Repeat(" 1", 40000), "error 6"},
		{"transpose 2 1" + strings.Repeat(" 0", 40000), "error 5"},
		{"broadcast 2 1" + strings.Repeat(" 0", 40000) + " x", "error 20"},
		{"new 2 5" + strings.Repeat(" 1", 40000), "error 19"},
		{"bytes" + strings.Repeat(" 1", 40000), "error 19"},
		{strings.Repeat("9", 90000), "error 18"},
		{"show " + strings.Repeat("9", 90000), "error 20"},
		{"fill 0 1 2 " + strings.Repeat("9", 90000), "error 14"},
	}
	for _, c := range cases {
		if got := checkScript(t, setup+c.line+"\nshow 0\nbytes", 100000); got[3] != c.want || len(got) != 6 {
			t.Errorf("%.30q: %q, want %q", c.line, got[3], c.want)
		}
	}
}

// P16
func TestScriptAtItsLimit(t *testing.T) {
	whole := strings.Repeat("bytes\n", 16666) + "new\n"
	if len(whole) != 100000 {
		t.Fatal(len(whole))
	}
	want := strings.Repeat("bytes 0\n", 16666) + "error 19\n"
	cases := []struct {
		script string
		want   string
	}{
		{whole, want}, {whole[:99999] + "w", strings.Repeat("bytes 0\n", 16666) + "error 18\n"}, {whole[:99999], want},
		{whole + "\n", "script too long\n"}, {whole + "n", "script too long\n"}, {whole + whole, "script too long\n"}, {strings.Repeat("\n", 100001), "script too long\n"},
		{strings.Repeat("\n", 100000), strings.Repeat("error 18\n", 100000)}, {strings.Repeat(" ", 100000), "error 18\n"}, {strings.Repeat(" ", 100001), "script too long\n"},
		{"", ""}, {"\n", "error 18\n"}, {"\n\n", "error 18\nerror 18\n"}, {"bytes", "bytes 0\n"}, {"bytes\n", "bytes 0\n"}, {"bytes\n\n", "bytes 0\nerror 18\n"}, {"\nbytes", "error 18\nbytes 0\n"}, {"bytes\r\n", "error 18\n"}, {"bytes\x00", "error 18\n"},
	}
	for _, c := range cases {
		for _, budget := range list(0, 1000) {
			if got := string(impl.RunScript([]byte(c.script), budget)); got != c.want {
				t.Errorf("%.40q: %.60q", c.script, got)
			}
			if wantedScript(c.script, budget) != c.want {
				t.Errorf("%.40q: the oracle says something else", c.script)
			}
		}
	}
	if got := impl.RunScript(nil, 0); len(got) != 0 {
		t.Errorf("%q", got)
	}
}

// P16: all handles at once, each with the largest store, in a budget that they fill.
func TestAllHandles(t *testing.T) {
	var lines []string
	for handle := range 64 {
		lines = append(lines, text("new", handle, 9, 4096))
	}
	lines = append(lines, "bytes", "new 64 1", "new 0 1", "op 1 63 0 31", "argsort 5 6 0", "free 31", "new 31 9 4096", "free 31", "new 31 1")
	answers := answersTo(joined(lines...), 64*65536)
	want := []string{"bytes 4194304", "error 15", "error 21", "ok", "ok", "ok", "block 31", "ok", "block 64"}
	if !slices.Equal(answers[64:], want) || answers[63] != "block 63" {
		t.Errorf("%q", answers[63:])
	}
	short := answersTo(joined(lines[:64]...), 64*65536-1)
	if short[62] != "block 62" || short[63] != "error 17" {
		t.Errorf("%q", short[62:])
	}
}

// P16
func TestDrawnScripts(t *testing.T) {
	d := draws(71)
	counts := map[string]int{}
	for range 400 {
		budget := d.oneOf(list(100000, 100000, 300, 200, 100))
		g := drawnScript(&d, 100, budget)
		answers := checkScript(t, joined(g.lines...), budget)
		for i, answer := range answers[:100] {
			word := strings.Split(g.lines[i], " ")[0]
			if strings.HasPrefix(answer, "error") {
				counts[answer]++
			} else {
				counts[word]++
			}
		}
		if t.Failed() {
			return
		}
	}
	for word := range scriptForms {
		if counts[word] < 150 {
			t.Errorf("%s was answered without an error only %d times", word, counts[word])
		}
	}
	for _, code := range list(3, 4, 5, 6, 8, 9, 10, 11, 13, 14, 15, 16, 17, 18, 19, 20, 21) {
		if counts[fmt.Sprint("error ", code)] < 5 {
			t.Errorf("code %d came only %d times", code, counts[fmt.Sprint("error ", code)])
		}
	}
}

// P16: all of the state, behind every line of a script.
func TestStateBehindEveryLine(t *testing.T) {
	d := draws(73)
	for range 12 {
		budget := d.oneOf(list(100000, 250))
		lines := drawnScript(&d, 60, budget).lines[:60]
		for n := range lines {
			checkScript(t, joined(append(slices.Clone(lines[:n+1]), lookLines()...)...), budget)
		}
	}
}

// P17: behind every refused line all is as it would be without it, also its new handle and the next block.
func TestRefusedLinesChangeNothing(t *testing.T) {
	refused := notFields()
	for word := range scriptForms {
		refused = append(refused, wrongCounts(word)...)
		for _, fault := range faultsOf(goodLines[word][0]) {
			refused = append(refused, fault.in(goodLines[word][0]))
		}
		for line := range ownCodes[word] {
			refused = append(refused, line)
		}
	}
	after := append(lookLines(), "new 63 5 3", "new 62 6 2", "fill 63 1 2 3", "free 2", "free 4", "free 10", "new 61 5 1", "free 63", "free 62", "new 2 8 2", "bytes")
	after = append(after, lookLines()...)
	without := answersTo(joined(append(slices.Clone(setupLines), after...)...), setupBudget)
	for _, line := range refused {
		for _, times := range []int{1, 3} {
			script := slices.Concat(setupLines, slices.Repeat([]string{line}, times), after)
			answers := answersTo(joined(script...), setupBudget)
			n := len(setupLines)
			for _, answer := range answers[n : n+times] {
				if !strings.HasPrefix(answer, "error ") || answer != answers[n] {
					t.Errorf("%q: %q", line, answer)
				}
			}
			if !slices.Equal(slices.Delete(answers, n, n+times), without) {
				t.Errorf("%q changes something", line)
			}
		}
	}
}

// P17
func TestDrawnScriptsWithoutTheirErrors(t *testing.T) {
	d := draws(79)
	left := 0
	for range 150 {
		budget := d.oneOf(list(100000, 200, 120))
		g := drawnScript(&d, 120, budget)
		answers := answersTo(joined(g.lines...), budget)
		var lines, want []string
		for i, answer := range answers {
			if !strings.HasPrefix(answer, "error") {
				lines, want = append(lines, g.lines[i]), append(want, answer)
			}
		}
		if got := answersTo(joined(lines...), budget); !slices.Equal(got, want) {
			t.Errorf("%q: %q, want %q", lines, got, want)
		}
		left += len(lines)
	}
	if left < 4000 {
		t.Errorf("only %d lines were left", left)
	}
}

func permutations(items []int64) [][]int64 {
	if len(items) == 0 {
		return [][]int64{nil}
	}
	var out [][]int64
	for i, first := range items {
		for _, rest := range permutations(slices.Delete(slices.Clone(items), i, i+1)) {
			out = append(out, append(list(first), rest...))
		}
	}
	return out
}

// P18: a store stays as long as some handle names it, in whatever order they are freed, and its block is taken again behind the last.
func TestStoresStayWithTheirHandles(t *testing.T) {
	setup := []string{"new 0 5 2 3", "fill 0 1 2 3 4 5 6", "new 9 5 2 3", "slice 1 0 0 0 1 1", "transpose 2 1 1 0", "reshape 3 0 6", "broadcast 4 3 2 6"}
	shows := map[int64]string{0: "array 5 2 2 3 1 2 3 4 5 6", 1: "array 5 2 1 3 1 2 3", 2: "array 5 2 3 1 1 2 3", 3: "array 5 1 6 1 2 3 4 5 6", 4: "array 5 2 2 6 1 2 3 4 5 6 1 2 3 4 5 6"}
	for _, order := range permutations(list(0, 1, 2, 3, 4)) {
		lines := slices.Clone(setup)
		want := []string{"block 0", "ok", "block 1", "ok", "ok", "ok", "ok"}
		for i, handle := range order {
			lines = append(lines, text("show", handle), text("free", handle), text("show", handle), "bytes")
			want = append(want, shows[handle], "ok", "error 15", "bytes 64")
			if i < 4 {
				lines = append(lines, "new 20 6 4", "bytes", "free 20", text("new", handle, 5, 1), text("free", handle))
				want = append(want, "block 2", "bytes 96", "ok", "block 3", "ok")
			}
		}
		want[len(want)-1] = "bytes 32"
		lines = append(lines, "new 20 6 4", "show 20", "new 21 6 4", "free 20", "free 21", "free 9", "bytes")
		want = append(want, "block 0", "array 6 1 4 0 0 0 0", "block 2", "ok", "ok", "ok", "bytes 0")
		if got := checkScript(t, joined(lines...), 1000); !slices.Equal(got, want) {
			t.Errorf("order %v: %q, want %q", order, got, want)
		}
	}
}

// P18: blocks are used again by size, the smallest number first.
func TestBlocksAreUsedAgain(t *testing.T) {
	lines := []string{
		"new 0 2 16", "new 1 2 17", "new 2 3 1", "new 3 8 4", "new 4 9 1", "new 5 9 2", "bytes",
		"free 4", "free 0", "free 3", "free 5", "bytes", "new 6 7 8", "new 7 4 1", "new 8 1 0", "new 9 6 3", "new 10 6 2", "new 11 6 5", "new 12 6 4", "bytes",
		"free 2", "free 1", "free 6", "free 7", "free 8", "free 9", "free 10", "free 11", "free 12", "bytes", "new 0 9 4", "new 1 9 3", "new 2 9 2", "new 3 9 1",
	}
	want := []string{
		"block 0", "block 1", "block 2", "block 3", "block 4", "block 5", "bytes 144",
		"ok", "ok", "ok", "ok", "bytes 48", "block 3", "block 0", "block 4", "block 5", "block 6", "block 7", "block 8", "bytes 256",
		"ok", "ok", "ok", "ok", "ok", "ok", "ok", "ok", "ok", "bytes 0", "block 7", "block 9", "block 1", "block 0",
	}
	if got := checkScript(t, joined(lines...), 1000); !slices.Equal(got, want) {
		t.Errorf("%q, want %q", got, want)
	}
}

// P18: more takes and gives than the pool of chapter 3 allows in one run.
func TestManyPoolOperations(t *testing.T) {
	script := strings.Repeat("new 0 5 1\nfree 0\n", 5000) + "bytes\nnew 1 5\n"
	answers := answersTo(script, 16)
	if len(answers) != 10002 || answers[10000] != "bytes 0" || answers[10001] != "block 0" {
		t.Error(len(answers), answers[len(answers)-2:])
	}
	for i, answer := range answers[:10000] {
		if answer != []string{"block 0", "ok"}[i%2] {
			t.Fatalf("line %d: %q", i, answer)
		}
	}
}

// P18: a budget that is met exactly, and one that is missed by one, for each dtype.
func TestBudgets(t *testing.T) {
	for _, dt := range dtypes {
		for _, shape := range [][]int64{nil, {0}, {1}, {3, 5}, {16}, {17}, {4096}, {4, 4, 4, 4}} {
			count := wantedCount(shape).Int64()
			size := wantedRound(count * list(0, 1, 1, 1, 2, 4, 8, 4, 8, 16)[dt])
			script := joined("new 0 1", text("new", 1, dt, shape), text("new", 2, dt, shape), "bytes", "free 1", text("new", 3, dt, shape), "bytes")
			exact := checkScript(t, script, 16+size)
			if !slices.Equal(exact[:4], []string{"block 0", "block 1", "error 17", fmt.Sprint("bytes ", 16+size)}) || exact[5] != "block 1" {
				t.Errorf("dtype %d, shape %v: %q", dt, shape, exact)
			}
			if short := checkScript(t, script, 16+size-1); short[1] != "error 17" || short[3] != "bytes 16" {
				t.Errorf("dtype %d, shape %v: %q", dt, shape, short)
			}
		}
	}
	for _, budget := range list(15, 0, -1, -16, math.MinInt64) {
		want := []string{"error 17", "error 17", "error 4", "error 6", "bytes 0", "error 15"}
		if got := checkScript(t, "new 0 1\nnew 0 1 0\nnew 0 10 5000\nnew 0 9 5000\nbytes\nshow 0", budget); !slices.Equal(got, want) {
			t.Errorf("budget %d: %q", budget, got)
		}
	}
	for _, budget := range list(16, 31, math.MaxInt64) {
		if got := checkScript(t, "new 0 1\nbytes\nfree 0\nbytes", budget); !slices.Equal(got, []string{"block 0", "bytes 16", "ok", "bytes 0"}) {
			t.Errorf("budget %d: %q", budget, got)
		}
	}
}

// P18
func TestLiveBytesBehindFreeingAll(t *testing.T) {
	d := draws(83)
	for range 150 {
		budget := d.oneOf(list(100000, 300, 100))
		g := drawnScript(&d, 80, budget)
		lines := g.lines
		handles := g.state.liveHandles()
		for len(handles) > 0 {
			at := d.below(int64(len(handles)))
			lines = append(lines, text("free", handles[at]), "bytes")
			handles = slices.Delete(handles, int(at), int(at)+1)
		}
		lines = append(lines, "bytes")
		answers := checkScript(t, joined(lines...), budget)
		if last := answers[len(answers)-1]; last != "bytes 0" {
			t.Errorf("%q: %q", lines, last)
		}
	}
}

// P16: the script is not written to, an answer is memory of its own, and nothing is kept from script to script.
func TestScriptsAreNewMemory(t *testing.T) {
	script := joined(append(slices.Clone(setupLines), lookLines()...)...)
	for _, s := range []string{script, "", "bytes", strings.Repeat("x", 100001)} {
		room := []byte(s + "marks")
		given := bytes.Clone(room)
		first := impl.RunScript(room[:len(s)], setupBudget)
		want := string(first)
		second := impl.RunScript(room[:len(s)], setupBudget)
		whole := first[:cap(first)]
		for i := range whole {
			whole[i] = '?'
		}
		if !bytes.Equal(room, given) {
			t.Errorf("%.20q was written to", s)
		}
		if string(second) != want || string(impl.RunScript([]byte(s), setupBudget)) != want {
			t.Errorf("%.20q: another answer", s)
		}
	}
}
