package tests

import (
	"fmt"
	"regexp"
	"slices"
	"strconv"
	"strings"

	"loop.example/s16388/impl"
)

// scriptForm is a line of the document's table: behind the word K is a new handle, H one that must be live, n a number, c a cell.
type scriptForm struct {
	must string
	more string
	most int
}

const noEnd = 1 << 30

var scriptForms = map[string]scriptForm{
	"new": {"Kn", "n", 4}, "fill": {"H", "c", noEnd},
	"slice": {"KHnnnn", "", 0}, "transpose": {"KH", "n", noEnd}, "reshape": {"KH", "n", noEnd}, "broadcast": {"KH", "n", noEnd},
	"op": {"nHHH", "", 0}, "tiled": {"nHHHnn", "n", noEnd}, "unary": {"nHH", "", 0}, "where": {"HHHH", "", 0},
	"take": {"HH", "n", noEnd}, "put": {"HH", "n", noEnd},
	"reduce": {"nHHn", "", 0}, "scan": {"nHHn", "", 0}, "sort": {"Hn", "", 0}, "argsort": {"HHn", "", 0},
	"matmul": {"HHH", "", 0}, "solve": {"HHH", "", 0},
	"free": {"H", "", 0}, "show": {"H", "", 0}, "bytes": {"", "", 0},
}

var lineForm = regexp.MustCompile(`^[!-~]+( [!-~]+)*$`)
var numberForm = regexp.MustCompile(`^(0|-?[1-9][0-9]{0,17})$`)

func (f scriptForm) kind(i int) string {
	if i < len(f.must) {
		return f.must[i : i+1]
	}
	return f.more
}

type scriptArray struct {
	store int
	view  impl.View
}

// scriptState keeps every store that was ever made, and counts no handles: which stores and blocks are live is found by looking through the handles each time.
type scriptState struct {
	budget  int64
	handles map[int64]scriptArray
	stores  []impl.Store
	blockOf []int
	sizes   []int64
}

func newScriptState(budget int64) *scriptState {
	return &scriptState{budget: budget, handles: map[int64]scriptArray{}}
}

func wantedLines(script string) []string {
	lines := strings.Split(script, "\n")
	if lines[len(lines)-1] == "" {
		lines = lines[:len(lines)-1]
	}
	return lines
}

func wantedScript(script string, budget int64) string {
	if len(script) > 100000 {
		return "script too long\n"
	}
	s := newScriptState(budget)
	var out strings.Builder
	for _, line := range wantedLines(script) {
		out.WriteString(s.answer(line) + "\n")
	}
	return out.String()
}

func (s *scriptState) liveHandles() []int64 {
	var out []int64
	for handle := range int64(64) {
		if _, live := s.handles[handle]; live {
			out = append(out, handle)
		}
	}
	return out
}

func (s *scriptState) liveStores() []int {
	var out []int
	for _, handle := range s.liveHandles() {
		out = append(out, s.handles[handle].store)
	}
	slices.Sort(out)
	return slices.Compact(out)
}

func (s *scriptState) liveBlocks() []int {
	var out []int
	for _, store := range s.liveStores() {
		out = append(out, s.blockOf[store])
	}
	return out
}

func (s *scriptState) liveBytes() int64 {
	sum := int64(0)
	for _, block := range s.liveBlocks() {
		sum += s.sizes[block]
	}
	return sum
}

// lineCode looks for the codes that come before those of the call itself, in the order of the document.
func (s *scriptState) lineCode(line string) int64 {
	fields := strings.Split(line, " ")
	form, known := scriptForms[fields[0]]
	if !lineForm.MatchString(line) || !known {
		return 18
	}
	rest := fields[1:]
	if len(rest) < len(form.must) || len(rest) > len(form.must)+form.most {
		return 19
	}
	for i, text := range rest {
		if form.kind(i) != "c" && !numberForm.MatchString(text) {
			return 20
		}
	}
	taken := int64(0)
	for i, text := range rest {
		if i < len(form.must) && strings.Contains("KH", form.kind(i)) {
			handle, _ := strconv.ParseInt(text, 10, 64)
			_, live := s.handles[handle]
			if form.kind(i) == "H" && !live || handle < 0 || handle > 63 {
				return 15
			}
			if form.kind(i) == "K" && live {
				taken = 21
			}
		}
	}
	return taken
}

// scriptCall is a line without errors of form: its handles in order, the new one among them first, its numbers and its cells.
type scriptCall struct {
	word    string
	handles []int64
	numbers []int64
	cells   []string
}

func readCall(line string) scriptCall {
	fields := strings.Split(line, " ")
	c := scriptCall{word: fields[0]}
	for i, text := range fields[1:] {
		n, _ := strconv.ParseInt(text, 10, 64)
		switch scriptForms[c.word].kind(i) {
		case "K", "H":
			c.handles = append(c.handles, n)
		case "n":
			c.numbers = append(c.numbers, n)
		case "c":
			c.cells = append(c.cells, text)
		}
	}
	return c
}

func (s *scriptState) answer(line string) string {
	code := s.lineCode(line)
	text := "ok"
	if code == 0 {
		code, text = s.run(readCall(line))
	}
	if code != 0 {
		return fmt.Sprint("error ", code)
	}
	return text
}

func (s *scriptState) run(c scriptCall) (int64, string) {
	switch c.word {
	case "new":
		return s.runNew(c)
	case "fill":
		return s.runFill(c), "ok"
	case "slice", "transpose", "reshape", "broadcast":
		return s.runView(c), "ok"
	case "free":
		delete(s.handles, c.handles[0])
		return 0, "ok"
	case "show":
		return 0, s.show(c.handles[0])
	case "bytes":
		return 0, fmt.Sprint("bytes ", s.liveBytes())
	}
	return s.runArrays(c), "ok"
}

func (s *scriptState) runNew(c scriptCall) (int64, string) {
	dt, shape := c.numbers[0], c.numbers[1:]
	if dt < 1 || dt > 9 {
		return 4, ""
	}
	if !wantedGood(shape) {
		return 6, ""
	}
	count := wantedCount(shape).Int64()
	size := wantedRound(count * list(0, 1, 1, 1, 2, 4, 8, 4, 8, 16)[dt])
	if s.liveBytes()+size > s.budget {
		return 17, ""
	}
	live := s.liveBlocks()
	block := 0
	for block < len(s.sizes) && (s.sizes[block] != size || slices.Contains(live, block)) {
		block++
	}
	if block == len(s.sizes) {
		s.sizes = append(s.sizes, size)
	}
	s.handles[c.handles[0]] = scriptArray{store: len(s.stores), view: wantedReshape(dense(0, 0, count).View, shape).View}
	s.stores = append(s.stores, impl.Store{DType: dt, Cells: make([]impl.Cell, count)})
	s.blockOf = append(s.blockOf, block)
	return 0, fmt.Sprint("block ", block)
}

func (s *scriptState) runFill(c scriptCall) int64 {
	a := s.handles[c.handles[0]]
	places := wantedPlaces(a.view)
	if len(places) != len(c.cells) {
		return 6
	}
	var cells []impl.Cell
	for _, text := range c.cells {
		r := wantedParse(s.stores[a.store].DType, text)
		if r.Code != 0 {
			return 14
		}
		cells = append(cells, r.Cell)
	}
	if !wantedWritable(a.view) {
		return 9
	}
	for i, place := range places {
		s.stores[a.store].Cells[place] = cells[i]
	}
	return 0
}

func (s *scriptState) runView(c scriptCall) int64 {
	from, n := s.handles[c.handles[1]], c.numbers
	var r impl.ViewResult
	switch c.word {
	case "slice":
		r = wantedSlice(from.view, n[0], n[1], n[2], n[3])
	case "transpose":
		r = wantedTranspose(from.view, n)
	case "reshape":
		r = wantedReshape(from.view, n)
	case "broadcast":
		r = wantedBroadcast(from.view, n)
	}
	if r.Code == 0 {
		s.handles[c.handles[0]] = scriptArray{store: from.store, view: r.View}
	}
	return r.Code
}

func (s *scriptState) show(handle int64) string {
	a := s.handles[handle]
	dt := s.stores[a.store].DType
	out := []string{"array", fmt.Sprint(dt), fmt.Sprint(len(a.view.Shape))}
	for _, n := range a.view.Shape {
		out = append(out, fmt.Sprint(n))
	}
	for _, place := range wantedPlaces(a.view) {
		out = append(out, wantedText(dt, s.stores[a.store].Cells[place]))
	}
	return strings.Join(out, " ")
}

// runArrays hands the call a heap of all live stores.
func (s *scriptState) runArrays(c scriptCall) int64 {
	live := s.liveStores()
	var h impl.Heap
	for _, store := range live {
		h.Stores = append(h.Stores, s.stores[store])
	}
	var arrays []impl.Array
	for _, handle := range c.handles {
		a := s.handles[handle]
		arrays = append(arrays, arrayOf(int64(slices.Index(live, a.store)), a.view))
	}
	r := arrayCallOf(c, h, arrays).wanted()
	if r.Code == 0 {
		for i, store := range live {
			s.stores[store] = r.Heap.Stores[i]
		}
	}
	return r.Code
}

func arrayCallOf(c scriptCall, h impl.Heap, a []impl.Array) arrayCall {
	n := c.numbers
	switch c.word {
	case "op":
		return arrayCall{name: "Elementwise", heap: h, op: n[0], out: a[0], a: a[1], b: a[2]}
	case "tiled":
		return arrayCall{name: "Tiled", heap: h, op: n[0], out: a[0], a: a[1], b: a[2], tile: n[1], workers: n[2], picks: n[3:]}
	case "unary":
		return arrayCall{name: "Unary", heap: h, op: n[0], out: a[0], a: a[1]}
	case "where":
		return arrayCall{name: "Where", heap: h, out: a[0], cond: a[1], a: a[2], b: a[3]}
	case "take":
		return arrayCall{name: "Take", heap: h, out: a[0], a: a[1], index: n}
	case "put":
		return arrayCall{name: "Put", heap: h, out: a[0], a: a[1], index: n}
	case "reduce":
		return arrayCall{name: "Reduce", heap: h, op: n[0], out: a[0], a: a[1], axis: n[1]}
	case "scan":
		return arrayCall{name: "Scan", heap: h, op: n[0], out: a[0], a: a[1], axis: n[1]}
	case "sort":
		return arrayCall{name: "SortAxis", heap: h, out: a[0], axis: n[0]}
	case "argsort":
		return arrayCall{name: "ArgSort", heap: h, out: a[0], a: a[1], axis: n[0]}
	case "matmul":
		return arrayCall{name: "MatMul", heap: h, out: a[0], a: a[1], b: a[2]}
	}
	return arrayCall{name: "Solve", heap: h, out: a[0], a: a[1], b: a[2]}
}
