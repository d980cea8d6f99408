package impl

import "math"

const (
	Bool = iota + 1
	I8
	U8
	I16
	I32
	I64
	F32
	F64
	C128
)

const (
	CastSafe = iota
	CastKind
	CastAny
)

const (
	OpAdd = iota + 1
	OpSub
	OpMul
	OpDiv
	OpMin
	OpMax
	OpLess
	OpEqual
	OpShl
	OpShr
)

const (
	UnNeg = iota + 1
	UnNot
	UnAbs
	UnConj
)

const ErrHeap = 1
const ErrArray = 2
const ErrOp = 3
const ErrDType = 4
const ErrAxis = 5
const ErrShape = 6
const ErrEmpty = 7
const ErrIndex = 8
const ErrWrite = 9
const ErrCast = 10
const ErrSingular = 11
const ErrView = 12
const ErrLayout = 13
const ErrCell = 14

// The kinds are ordered: CastKind lets a dtype go to any of its own or of a larger kind.
const (
	kindNone = iota - 1
	kindBool
	kindInteger
	kindFloat
	kindComplex
)

type Cell struct {
	I int64
	F float64
	G float64
}

type Applied struct {
	Code  int64
	DType int64
	Cell  Cell
}

type integer interface {
	int8 | uint8 | int16 | int32 | int64
}

type float interface {
	float32 | float64
}

type number interface {
	integer | float
}

func kindOf(dt int64) int64 {
	switch dt {
	case Bool:
		return kindBool
	case I8, U8, I16, I32, I64:
		return kindInteger
	case F32, F64:
		return kindFloat
	case C128:
		return kindComplex
	}
	return kindNone
}

func isDType(dt int64) bool {
	return kindOf(dt) != kindNone
}

func ValidCell(dt int64, c Cell) bool {
	switch kindOf(dt) {
	case kindBool:
		return (c.I == 0 || c.I == 1) && isPlusZero(c.F) && isPlusZero(c.G)
	case kindInteger:
		return cutBits(dt, c.I) == c.I && isPlusZero(c.F) && isPlusZero(c.G)
	case kindFloat:
		return c.I == 0 && isPlusZero(c.G) && (dt == F64 || isSingle(c.F))
	case kindComplex:
		return c.I == 0
	}
	return false
}

func isPlusZero(x float64) bool {
	return x == 0 && !math.Signbit(x)
}

func isSingle(x float64) bool {
	return math.IsNaN(x) || float64(float32(x)) == x
}

// cutBits keeps the low bits that an integer dtype has; conversion to the sized type is that cut.
func cutBits(dt int64, i int64) int64 {
	switch dt {
	case I8:
		return int64(int8(i))
	case U8:
		return int64(uint8(i))
	case I16:
		return int64(int16(i))
	case I32:
		return int64(int32(i))
	}
	return i
}

func integerRange(dt int64) (int64, int64) {
	switch dt {
	case I8:
		return math.MinInt8, math.MaxInt8
	case U8:
		return 0, math.MaxUint8
	case I16:
		return math.MinInt16, math.MaxInt16
	case I32:
		return math.MinInt32, math.MaxInt32
	}
	return math.MinInt64, math.MaxInt64
}

func Convert(from int64, to int64, c Cell) Cell {
	if !isDType(to) || !ValidCell(from, c) {
		return Cell{}
	}
	if from == to {
		return c
	}
	switch kindOf(from) {
	case kindFloat:
		return convertFloat(to, c.F)
	case kindComplex:
		return convertComplex(to, complexOf(c))
	}
	return convertInteger(to, c.I)
}

func convertInteger(to int64, i int64) Cell {
	switch to {
	case Bool:
		return truthCell(i != 0)
	case F32:
		// Straight to single: by way of double it would be rounded twice.
		return Cell{F: float64(float32(i))}
	case F64, C128:
		return Cell{F: float64(i)}
	}
	return Cell{I: cutBits(to, i)}
}

func convertFloat(to int64, x float64) Cell {
	switch to {
	case Bool:
		return truthCell(x != 0)
	case F32:
		return Cell{F: float64(float32(x))}
	case F64, C128:
		return Cell{F: x}
	}
	return Cell{I: nearestInteger(to, x)}
}

func convertComplex(to int64, z complex128) Cell {
	if to == Bool {
		return truthCell(z != 0)
	}
	return convertFloat(to, real(z))
}

func nearestInteger(dt int64, x float64) int64 {
	least, most := integerRange(dt)
	return max(least, min(most, truncate(x)))
}

// truncate answers the ends of int64 itself, since Go leaves open what its conversion makes of a float outside them.
func truncate(x float64) int64 {
	switch {
	case math.IsNaN(x):
		return 0
	case x >= 1<<63:
		return math.MaxInt64
	case x <= -(1 << 63):
		return math.MinInt64
	}
	return int64(x)
}

func truthCell(t bool) Cell {
	if t {
		return Cell{I: 1}
	}
	return Cell{}
}

func complexOf(c Cell) complex128 {
	return complex(c.F, c.G)
}

func complexCell(z complex128) Cell {
	return Cell{F: real(z), G: imag(z)}
}

func Promote(a int64, b int64) int64 {
	if !isDType(a) || !isDType(b) {
		return 0
	}
	low, high := min(a, b), max(a, b)
	switch {
	case high == F32 && (low == I32 || low == I64):
		return F64
	case high == U8 && low == I8:
		return I16
	}
	// Bool has the smallest number, and F64 and C128 have the largest, so the larger number holds both in all other pairs.
	return high
}

func CanCast(from int64, to int64, rule int64) bool {
	if !isDType(from) || !isDType(to) {
		return false
	}
	switch rule {
	case CastSafe:
		return Promote(from, to) == to
	case CastKind:
		return Promote(from, to) == to || kindOf(from) <= kindOf(to)
	case CastAny:
		return true
	}
	return false
}

func Apply(op int64, dt int64, a Cell, b Cell) Applied {
	if code := opCode(op, dt); code != 0 {
		return Applied{Code: code}
	}
	if !ValidCell(dt, a) || !ValidCell(dt, b) {
		return Applied{Code: ErrCell}
	}
	return Applied{DType: resultDType(op, dt), Cell: applyCells(op, dt, a, b)}
}

func opCode(op int64, dt int64) int64 {
	switch {
	case op < OpAdd || op > OpShr:
		return ErrOp
	case !opFits(op, dt):
		return ErrDType
	}
	return 0
}

func opFits(op int64, dt int64) bool {
	switch kindOf(dt) {
	case kindBool:
		return op != OpDiv && op < OpShl
	case kindInteger:
		return true
	case kindFloat:
		return op < OpShl
	case kindComplex:
		return op <= OpMul || op == OpEqual
	}
	return false
}

func resultDType(op int64, dt int64) int64 {
	if op == OpLess || op == OpEqual {
		return Bool
	}
	return dt
}

func applyCells(op int64, dt int64, a Cell, b Cell) Cell {
	switch dt {
	case Bool:
		return applyBool(op, a.I, b.I)
	case I8:
		return applyInteger(op, int8(a.I), int8(b.I))
	case U8:
		return applyInteger(op, uint8(a.I), uint8(b.I))
	case I16:
		return applyInteger(op, int16(a.I), int16(b.I))
	case I32:
		return applyInteger(op, int32(a.I), int32(b.I))
	case I64:
		return applyInteger(op, a.I, b.I)
	case F32:
		return applyFloat(op, float32(a.F), float32(b.F))
	case F64:
		return applyFloat(op, a.F, b.F)
	}
	return applyComplex(op, complexOf(a), complexOf(b))
}

func applyBool(op int64, a int64, b int64) Cell {
	switch op {
	case OpAdd, OpMax:
		return Cell{I: a | b}
	case OpSub:
		return Cell{I: a ^ b}
	case OpMul, OpMin:
		return Cell{I: a & b}
	}
	return truthCell(compare(op, a, b))
}

func applyInteger[T integer](op int64, a T, b T) Cell {
	switch op {
	case OpMin:
		return Cell{I: int64(min(a, b))}
	case OpMax:
		return Cell{I: int64(max(a, b))}
	case OpLess, OpEqual:
		return truthCell(compare(op, a, b))
	case OpShl, OpShr:
		return Cell{I: int64(shift(op, a, int64(b)))}
	case OpDiv:
		if b == 0 {
			return Cell{}
		}
	}
	return Cell{I: int64(arithmetic(op, a, b))}
}

func applyFloat[T float](op int64, a T, b T) Cell {
	switch op {
	case OpMin, OpMax:
		return Cell{F: floatEnd(op, float64(a), float64(b))}
	case OpLess, OpEqual:
		return truthCell(compare(op, a, b))
	}
	return Cell{F: float64(arithmetic(op, a, b))}
}

// arithmetic converts each result to its own type: that rounds it, and bars a compiler from fusing it with what the caller does next.
func arithmetic[T number](op int64, a T, b T) T {
	switch op {
	case OpAdd:
		return T(a + b)
	case OpSub:
		return T(a - b)
	case OpMul:
		return T(a * b)
	}
	return T(a / b)
}

func compare[T number](op int64, a T, b T) bool {
	if op == OpLess {
		return a < b
	}
	return a == b
}

// shift leans on Go for counts of all places or more: it fills with 0, and to the right with the sign, as the table asks. A negative count is to do the same.
func shift[T integer](op int64, a T, places int64) T {
	if places < 0 {
		places = 64
	}
	if op == OpShl {
		return a << places
	}
	return a >> places
}

// floatEnd goes by the order of Before and not by min and max of the language, so that there is one order of floats.
func floatEnd(op int64, a float64, b float64) float64 {
	if math.IsNaN(a) || math.IsNaN(b) {
		return math.NaN()
	}
	if floatBefore(a, b) == (op == OpMin) {
		return a
	}
	return b
}

func applyComplex(op int64, a complex128, b complex128) Cell {
	switch op {
	case OpAdd:
		return complexCell(a + b)
	case OpSub:
		return complexCell(a - b)
	case OpMul:
		return complexCell(complexProduct(a, b))
	}
	return truthCell(a == b)
}

// complexProduct is not Go's product of complex numbers, whose parts a compiler may fuse; each conversion rounds a product for itself.
func complexProduct(a complex128, b complex128) complex128 {
	p, q := real(a), imag(a)
	r, s := real(b), imag(b)
	return complex(float64(p*r)-float64(q*s), float64(p*s)+float64(q*r))
}

func ApplyUnary(op int64, dt int64, a Cell) Applied {
	if code := unaryCode(op, dt); code != 0 {
		return Applied{Code: code}
	}
	if !ValidCell(dt, a) {
		return Applied{Code: ErrCell}
	}
	return Applied{DType: dt, Cell: unaryCell(op, dt, a)}
}

func unaryCode(op int64, dt int64) int64 {
	switch {
	case op < UnNeg || op > UnConj:
		return ErrOp
	case !unaryFits(op, dt):
		return ErrDType
	}
	return 0
}

func unaryFits(op int64, dt int64) bool {
	kind := kindOf(dt)
	switch op {
	case UnNeg:
		return kind >= kindInteger
	case UnNot:
		return kind == kindBool || kind == kindInteger
	case UnAbs:
		return kind == kindInteger || kind == kindFloat
	}
	return kind != kindNone
}

func unaryCell(op int64, dt int64, a Cell) Cell {
	if op == UnConj && dt != C128 {
		return a
	}
	switch dt {
	case Bool:
		return Cell{I: 1 - a.I}
	case I8:
		return unaryInteger(op, int8(a.I))
	case U8:
		return unaryInteger(op, uint8(a.I))
	case I16:
		return unaryInteger(op, int16(a.I))
	case I32:
		return unaryInteger(op, int32(a.I))
	case I64:
		return unaryInteger(op, a.I)
	case F32, F64:
		return unaryFloat(op, a.F)
	}
	return unaryComplex(op, complexOf(a))
}

func unaryInteger[T integer](op int64, a T) Cell {
	if op == UnNot {
		return Cell{I: int64(^a)}
	}
	if op == UnAbs && a >= 0 {
		return Cell{I: int64(a)}
	}
	return Cell{I: int64(-a)}
}

func unaryFloat(op int64, x float64) Cell {
	if op == UnAbs {
		return Cell{F: math.Abs(x)}
	}
	return Cell{F: -x}
}

func unaryComplex(op int64, z complex128) Cell {
	if op == UnConj {
		return complexCell(complex(real(z), -imag(z)))
	}
	return complexCell(-z)
}

func Before(dt int64, a Cell, b Cell) bool {
	if !ValidCell(dt, a) || !ValidCell(dt, b) {
		return false
	}
	switch kindOf(dt) {
	case kindFloat:
		return floatBefore(a.F, b.F)
	case kindComplex:
		return complexBefore(complexOf(a), complexOf(b))
	}
	return a.I < b.I
}

func floatBefore(a float64, b float64) bool {
	switch {
	case math.IsNaN(a):
		return false
	case math.IsNaN(b):
		return true
	case a == b:
		return math.Signbit(a) && !math.Signbit(b)
	}
	return a < b
}

func complexBefore(a complex128, b complex128) bool {
	if floatBefore(real(a), real(b)) {
		return true
	}
	return !floatBefore(real(b), real(a)) && floatBefore(imag(a), imag(b))
}
