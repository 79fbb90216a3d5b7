package impl

import (
	"cmp"
	"math"
	"math/bits"
	"strconv"
	"strings"
	"unicode/utf8"
)

// Codes of all chapters, see chapter 1.
const (
	OK          = 0
	ErrBad      = 1
	ErrToken    = 2
	ErrSyntax   = 3
	ErrDeep     = 4
	ErrBig      = 5
	ErrTable    = 6
	ErrColumn   = 7
	ErrMany     = 8
	ErrExists   = 9
	ErrType     = 10
	ErrGroup    = 11
	ErrWidth    = 12
	ErrOverflow = 13
	ErrZero     = 14
	ErrCast     = 15
	ErrRows     = 16
	ErrNull     = 17
	ErrUnique   = 18
	ErrCheck    = 19
	ErrConflict = 20
	ErrDanger   = 21
	ErrState    = 22
	ErrPoint    = 23
	ErrBusy     = 24
	ErrFull     = 25
	ErrIO       = 26
	ErrDown     = 27
	ErrCorrupt  = 28
	ErrFuel     = 29
	ErrWord     = 30
)

// Bounds of values, see chapter 2.
const (
	MaxChars = 255
	MaxDec   = 999999999999999999
	Scale    = 10000
	MinDate  = -719162
	MaxDate  = 2932896
	MaxArgs  = 8
)

// The kinds of values.
const (
	Null = 0
	Int  = 1
	Dec  = 2
	Text = 3
	Bool = 4
	Date = 5
)

// Operators.
const (
	OpAdd    = 1
	OpSub    = 2
	OpMul    = 3
	OpDiv    = 4
	OpMod    = 5
	OpCat    = 6
	OpEq     = 7
	OpNe     = 8
	OpLt     = 9
	OpLe     = 10
	OpGt     = 11
	OpGe     = 12
	OpSame   = 13
	OpAnd    = 14
	OpOr     = 15
	OpNot    = 16
	OpNeg    = 17
	OpIsNull = 18
)

// Functions of values.
const (
	FnAbs      = 1
	FnLength   = 2
	FnLower    = 3
	FnUpper    = 4
	FnSubstr   = 5
	FnNullif   = 6
	FnYear     = 7
	FnMonth    = 8
	FnDay      = 9
	FnRound    = 10
	FnTrim     = 11
	FnLeast    = 12
	FnGreatest = 13
)

// Value is one value: its kind, a number, a text.
type Value struct {
	Kind, N int
	S       string
}

// ValueOK tells whether a value is valid, see chapter 2.
func ValueOK(v Value) bool {
	switch v.Kind {
	case Null:
		return v == Value{}
	case Int:
		return v.S == ""
	case Dec:
		return v.S == "" && within(v.N, -MaxDec, MaxDec)
	case Text:
		return v.N == 0 && utf8.ValidString(v.S) && charCount(v.S) <= MaxChars
	case Bool:
		return v.S == "" && within(v.N, 0, 1)
	case Date:
		return v.S == "" && within(v.N, MinDate, MaxDate)
	}
	return false
}

func within(n, least, most int) bool { return least <= n && n <= most }

func isKind(kind int) bool { return within(kind, Null, Date) }

func charCount(s string) int {
	n := 0
	for range s {
		n++
	}
	return n
}

func charsOf(s string) []rune {
	var chars []rune
	for _, c := range s {
		chars = append(chars, c)
	}
	return chars
}

func boolValue(b bool) Value {
	if b {
		return Value{Kind: Bool, N: 1}
	}
	return Value{Kind: Bool}
}

func textValue(s string) Value { return Value{Kind: Text, S: s} }

// numbered makes an answer of a number and a code: beside a fault it is all zeros.
func numbered(kind, n, code int) (Value, int) {
	if code != OK {
		return Value{}, code
	}
	return Value{Kind: kind, N: n}, OK
}

// Compare orders two values: order, code; see chapter 2.
func Compare(a, b Value) (int, int) {
	if !ValueOK(a) || !ValueOK(b) {
		return 0, ErrBad
	}
	if OpKind(OpEq, a.Kind, b.Kind) == -1 {
		return 0, ErrType
	}
	return orderOf(a, b), OK
}

// orderOf is Compare for valid values whose kinds go together.
func orderOf(a, b Value) int {
	switch {
	case a.Kind == Text && b.Kind == Text:
		// UTF-8 keeps the order of code points in the order of its bytes.
		return strings.Compare(a.S, b.S)
	case a.Kind == b.Kind:
		return cmp.Compare(a.N, b.N)
	case a.Kind == Null:
		return -1
	case b.Kind == Null:
		return 1
	case a.Kind == Int:
		return orderIntDec(a.N, b.N)
	}
	return -orderIntDec(b.N, a.N)
}

func orderIntDec(n, units int) int {
	asUnits, code := decUnits(n)
	if code != OK {
		// Such an Int lies beyond every Dec, so its sign decides.
		return cmp.Compare(n, 0)
	}
	return cmp.Compare(asUnits, units)
}

// decUnits is an Int in the units of a Dec, and a code.
func decUnits(n int) (int, int) {
	const most = MaxDec / Scale
	if !within(n, -most, most) {
		return 0, ErrOverflow
	}
	return n * Scale, OK
}

// OpKind is the kind of an operator's result, see chapter 2.
func OpKind(op, a, b int) int {
	switch {
	case !isKind(a):
		return -1
	case within(op, OpNot, OpIsNull):
		return unaryKind(op, a)
	case !within(op, OpAdd, OpOr) || !isKind(b):
		return -1
	case a == Null && b == Null:
		return kindOfNulls(op)
	case a == Null:
		return firstKind(func(kind int) int { return binaryKind(op, kind, b) })
	case b == Null:
		return firstKind(func(kind int) int { return binaryKind(op, a, kind) })
	}
	return binaryKind(op, a, b)
}

// firstKind is what the first kind, put in the place of Null, gives; or -1.
func firstKind(gives func(kind int) int) int {
	for kind := Int; kind <= Date; kind++ {
		if result := gives(kind); result != -1 {
			return result
		}
	}
	return -1
}

func kindOfNulls(op int) int {
	switch op {
	case OpAdd, OpSub, OpMul, OpDiv, OpMod:
		return Null
	case OpCat:
		return Text
	}
	return Bool
}

func unaryKind(op, a int) int {
	switch {
	case op == OpIsNull:
		return Bool
	case op == OpNot && (a == Bool || a == Null):
		return Bool
	case op == OpNeg && (a == Int || a == Dec || a == Null):
		return a
	}
	return -1
}

// binaryKind is OpKind for two operands, none of which is of kind Null.
func binaryKind(op, a, b int) int {
	switch op {
	case OpSub:
		if a == Date && b == Date {
			return Int
		}
		fallthrough
	case OpAdd:
		if a == Date && b == Int || op == OpAdd && a == Int && b == Date {
			return Date
		}
		fallthrough
	case OpMul, OpDiv, OpMod:
		return numberKind(a, b)
	case OpCat:
		return kindIfBoth(a, b, Text)
	case OpAnd, OpOr:
		return kindIfBoth(a, b, Bool)
	}
	if a == b || numberKind(a, b) != -1 {
		return Bool
	}
	return -1
}

func kindIfBoth(a, b, wanted int) int {
	if a == wanted && b == wanted {
		return wanted
	}
	return -1
}

// numberKind is the kind in which two numbers are worked out, or -1.
func numberKind(a, b int) int {
	if !within(a, Int, Dec) || !within(b, Int, Dec) {
		return -1
	}
	return max(a, b)
}

// Binary works out an operator of two operands, see chapter 2.
func Binary(op int, a, b Value) (Value, int) {
	if !within(op, OpAdd, OpOr) || !ValueOK(a) || !ValueOK(b) {
		return Value{}, ErrBad
	}
	if OpKind(op, a.Kind, b.Kind) == -1 {
		return Value{}, ErrType
	}
	switch op {
	case OpAnd:
		return decided(a, b, boolValue(false)), OK
	case OpOr:
		return decided(a, b, boolValue(true)), OK
	case OpSame:
		return boolValue(orderOf(a, b) == 0), OK
	}
	if a.Kind == Null || b.Kind == Null {
		return Value{}, OK
	}
	switch op {
	case OpCat:
		return joined(a.S, b.S)
	case OpEq, OpNe, OpLt, OpLe, OpGt, OpGe:
		return boolValue(holds(op, orderOf(a, b))), OK
	}
	return arithmetic(op, a, b)
}

// decided is And or Or: one operand that is the deciding value settles it, even beside NULL.
func decided(a, b, deciding Value) Value {
	if a == deciding || b == deciding {
		return deciding
	}
	if a.Kind == Null || b.Kind == Null {
		return Value{}
	}
	return boolValue(deciding.N == 0)
}

func holds(op, order int) bool {
	switch op {
	case OpEq:
		return order == 0
	case OpNe:
		return order != 0
	case OpLt:
		return order < 0
	case OpLe:
		return order <= 0
	case OpGt:
		return order > 0
	}
	return order >= 0
}

func joined(a, b string) (Value, int) {
	if charCount(a)+charCount(b) > MaxChars {
		return Value{}, ErrOverflow
	}
	return textValue(a + b), OK
}

// arithmetic works out Add to Mod of values that aren't NULL.
func arithmetic(op int, a, b Value) (Value, int) {
	switch {
	case a.Kind == Date && b.Kind == Date:
		return Value{Kind: Int, N: a.N - b.N}, OK
	case a.Kind == Date:
		return shiftedDate(op, a.N, b.N)
	case b.Kind == Date:
		return shiftedDate(op, b.N, a.N)
	case a.Kind == Int && b.Kind == Int:
		n, code := intArithmetic(op, a.N, b.N)
		return numbered(Int, n, code)
	}
	left, code := unitsOf(a)
	if code != OK {
		return Value{}, code
	}
	right, code := unitsOf(b)
	if code != OK {
		return Value{}, code
	}
	n, code := decArithmetic(op, left, right)
	return numbered(Dec, n, code)
}

func shiftedDate(op, day, days int) (Value, int) {
	const most = MaxDate - MinDate
	// A shift greater than the whole calendar is refused first, so that neither
	// the sum nor the change of sign wraps.
	if !within(days, -most, most) {
		return Value{}, ErrOverflow
	}
	if op == OpSub {
		days = -days
	}
	if !within(day+days, MinDate, MaxDate) {
		return Value{}, ErrOverflow
	}
	return Value{Kind: Date, N: day + days}, OK
}

func intArithmetic(op, a, b int) (int, int) {
	switch op {
	case OpAdd:
		return addInts(a, b)
	case OpSub:
		return subInts(a, b)
	case OpMul:
		high, low := bits.Mul64(magnitude(a), magnitude(b))
		if high != 0 {
			return 0, ErrOverflow
		}
		return signed(low, a < 0 != (b < 0))
	}
	switch {
	case b == 0:
		return 0, ErrZero
	case op == OpMod:
		// Go's rest of the least Int by -1 is 0, as it is asked for here.
		return a % b, OK
	case b == -1:
		// The least Int has no counterpart above 0.
		return subInts(0, a)
	}
	return a / b, OK
}

func addInts(a, b int) (int, int) {
	if a > 0 && b > math.MaxInt-a || a < 0 && b < math.MinInt-a {
		return 0, ErrOverflow
	}
	return a + b, OK
}

func subInts(a, b int) (int, int) {
	if b > 0 && a < math.MinInt+b || b < 0 && a > math.MaxInt+b {
		return 0, ErrOverflow
	}
	return a - b, OK
}

// magnitude is a number without its sign; a word without sign has room for that of the least Int.
func magnitude(n int) uint64 {
	if n < 0 {
		return -uint64(n)
	}
	return uint64(n)
}

func signed(size uint64, negative bool) (int, int) {
	switch {
	case negative && size <= 1<<63:
		return int(-size), OK
	case !negative && size < 1<<63:
		return int(size), OK
	}
	return 0, ErrOverflow
}

func unitsOf(v Value) (int, int) {
	if v.Kind == Int {
		return decUnits(v.N)
	}
	return v.N, OK
}

// decArithmetic works in units: the sum of two Decs is far from the end of 64
// bits, but their product needs two words on its way.
func decArithmetic(op, a, b int) (int, int) {
	negative := a < 0 != (b < 0)
	switch {
	case op == OpAdd:
		return boundedDec(a + b)
	case op == OpSub:
		return boundedDec(a - b)
	case op == OpMul:
		high, low := bits.Mul64(magnitude(a), magnitude(b))
		return roundedQuotient(high, low, Scale, negative)
	case b == 0:
		return 0, ErrZero
	case op == OpMod:
		return a % b, OK
	}
	high, low := bits.Mul64(magnitude(a), Scale)
	return roundedQuotient(high, low, magnitude(b), negative)
}

func boundedDec(n int) (int, int) {
	if !within(n, -MaxDec, MaxDec) {
		return 0, ErrOverflow
	}
	return n, OK
}

// roundedQuotient divides a number of two words, half away from zero; ErrOverflow above MaxDec.
func roundedQuotient(high, low, by uint64, negative bool) (int, int) {
	// Only below this does the quotient fit one word.
	if high >= by {
		return 0, ErrOverflow
	}
	quotient, rest := bits.Div64(high, low, by)
	if quotient > MaxDec {
		return 0, ErrOverflow
	}
	if rest >= by-rest {
		quotient++
	}
	n, _ := signed(quotient, negative)
	return boundedDec(n)
}

// wholeOf rounds a Dec's units to a whole number, half away from zero.
func wholeOf(units int) int {
	n, _ := roundedQuotient(0, magnitude(units), Scale, units < 0)
	return n
}

// Unary works out an operator of one operand, see chapter 2.
func Unary(op int, a Value) (Value, int) {
	if !within(op, OpNot, OpIsNull) || !ValueOK(a) {
		return Value{}, ErrBad
	}
	if OpKind(op, a.Kind, Null) == -1 {
		return Value{}, ErrType
	}
	switch {
	case op == OpIsNull:
		return boolValue(a.Kind == Null), OK
	case a.Kind == Null:
		return Value{}, OK
	case op == OpNot:
		return boolValue(a.N == 0), OK
	}
	n, code := subInts(0, a.N)
	return numbered(a.Kind, n, code)
}

// CastKind tells whether one kind can be cast to another, see chapter 2.
func CastKind(from, to int) bool {
	if !isKind(from) || !isKind(to) {
		return false
	}
	if from == to || from == Null {
		return true
	}
	switch from {
	case Int, Dec:
		if to == Int || to == Dec {
			return true
		}
		fallthrough
	case Bool, Date:
		return to == Text
	}
	return to != Null
}

// Cast makes a value one of another kind, see chapter 2.
func Cast(v Value, kind int) (Value, int) {
	if !ValueOK(v) || !isKind(kind) {
		return Value{}, ErrBad
	}
	if !CastKind(v.Kind, kind) {
		return Value{}, ErrType
	}
	switch {
	case v.Kind == Null || v.Kind == kind:
		return v, OK
	case v.Kind == Text:
		return castText(v.S, kind)
	case kind == Text:
		return textValue(plainText(v)), OK
	case kind == Dec:
		n, code := decUnits(v.N)
		return numbered(Dec, n, code)
	}
	return Value{Kind: Int, N: wholeOf(v.N)}, OK
}

func castText(s string, kind int) (Value, int) {
	n, ok := 0, false
	switch kind {
	case Int:
		n, ok = readInt(s)
	case Dec:
		n, ok = readDec(s)
	case Bool:
		n, ok = boolValue(s == "true").N, s == "true" || s == "false"
	case Date:
		n, ok = readDate(s)
	}
	if !ok {
		return Value{}, ErrCast
	}
	return Value{Kind: kind, N: n}, OK
}

// areDigits tells whether a text is 1 to most digits.
func areDigits(s string, most int) bool {
	for _, c := range s {
		if c < '0' || c > '9' {
			return false
		}
	}
	return within(len(s), 1, most)
}

func readInt(s string) (int, bool) {
	digits := strings.TrimPrefix(s, "-")
	if !areDigits(digits, 19) {
		return 0, false
	}
	n, code := signed(wordOf(digits), len(digits) < len(s))
	return n, code == OK
}

// wordOf reads digits, of which there are so few that a word without sign has room for them.
func wordOf(digits string) uint64 {
	n := uint64(0)
	for _, c := range digits {
		n = n*10 + uint64(c-'0')
	}
	return n
}

func readDec(s string) (int, bool) {
	whole, fraction, pointed := strings.Cut(strings.TrimPrefix(s, "-"), ".")
	if !areDigits(whole, 14) || pointed && !areDigits(fraction, 4) {
		return 0, false
	}
	// Filled up to four digits the fraction counts units; 18 digits are never above MaxDec.
	n, code := signed(wordOf(whole+fraction+strings.Repeat("0", 4-len(fraction))), strings.HasPrefix(s, "-"))
	return n, code == OK
}

func readDate(s string) (int, bool) {
	if len(s) != 10 || s[4] != '-' || s[7] != '-' {
		return 0, false
	}
	year, month, day := s[:4], s[5:7], s[8:]
	if !areDigits(year+month+day, 8) {
		return 0, false
	}
	n, code := DateOf(int(wordOf(year)), int(wordOf(month)), int(wordOf(day)))
	return n, code == OK
}

// Like matches a text with a pattern, see chapter 2.
func Like(s, pattern Value) (Value, int) {
	if !ValueOK(s) || !ValueOK(pattern) {
		return Value{}, ErrBad
	}
	if !fitsPlace(s.Kind, Text) || !fitsPlace(pattern.Kind, Text) {
		return Value{}, ErrType
	}
	if s.Kind == Null || pattern.Kind == Null {
		return Value{}, OK
	}
	return boolValue(matches(charsOf(s.S), patternPieces(pattern.S))), OK
}

// patternPiece is what stands for one character (any, or char alone) or for many.
type patternPiece struct {
	many, any bool
	char      rune
}

func patternPieces(pattern string) []patternPiece {
	var pieces []patternPiece
	escaped := false
	for _, c := range pattern {
		switch {
		case escaped:
			pieces = append(pieces, patternPiece{char: c})
			escaped = false
		case c == '\\':
			escaped = true
		default:
			pieces = append(pieces, patternPiece{many: c == '%', any: c == '_', char: c})
		}
	}
	if escaped {
		pieces = append(pieces, patternPiece{char: '\\'})
	}
	return pieces
}

// matches goes back to the last piece for many alone: an earlier one that took
// more could not help, so the work stays within the product of the lengths.
func matches(text []rune, pieces []patternPiece) bool {
	at, piece := 0, 0
	backAt, backPiece := 0, -1
	for at < len(text) {
		switch {
		case piece < len(pieces) && pieces[piece].many:
			backAt, backPiece = at, piece
			piece++
		case piece < len(pieces) && (pieces[piece].any || pieces[piece].char == text[at]):
			at++
			piece++
		case backPiece >= 0:
			backAt++
			at, piece = backAt, backPiece+1
		default:
			return false
		}
	}
	for piece < len(pieces) && pieces[piece].many {
		piece++
	}
	return piece == len(pieces)
}

// function is what a function takes and gives, and how it is worked out of
// arguments that it takes (Nullif alone is handed NULLs).
type function struct {
	gives func(kinds []int) int
	work  func(args []Value) (Value, int)
}

func functionTable() map[int]function {
	return map[int]function{
		FnAbs:      {kindOfAbs, callAbs},
		FnLength:   {taking(Int, Text), callLength},
		FnLower:    {taking(Text, Text), callLower},
		FnUpper:    {taking(Text, Text), callUpper},
		FnSubstr:   {taking(Text, Text, Int, Int), callSubstr},
		FnNullif:   {kindOfNullif, callNullif},
		FnYear:     {taking(Int, Date), callYear},
		FnMonth:    {taking(Int, Date), callMonth},
		FnDay:      {taking(Int, Date), callDay},
		FnRound:    {taking(Dec, Dec), callRound},
		FnTrim:     {taking(Text, Text), callTrim},
		FnLeast:    {kindOfTwo, callLeast},
		FnGreatest: {kindOfTwo, callGreatest},
	}
}

// fitsPlace tells whether an argument of a kind goes where another kind is wanted; Null goes anywhere.
func fitsPlace(kind, wanted int) bool { return kind == wanted || kind == Null }

// taking makes the rule of a function whose kinds are always the same.
func taking(result int, wanted ...int) func(kinds []int) int {
	return func(kinds []int) int {
		if len(kinds) != len(wanted) {
			return -1
		}
		for i, kind := range kinds {
			if !fitsPlace(kind, wanted[i]) {
				return -1
			}
		}
		return result
	}
}

func kindOfAbs(kinds []int) int {
	if len(kinds) != 1 {
		return -1
	}
	return OpKind(OpNeg, kinds[0], Null)
}

func kindOfNullif(kinds []int) int {
	if len(kinds) != 2 || OpKind(OpEq, kinds[0], kinds[1]) == -1 {
		return -1
	}
	return kinds[0]
}

func kindOfTwo(kinds []int) int {
	if len(kinds) != 2 || !fitsPlace(kinds[0], kinds[1]) && kinds[1] != Null {
		return -1
	}
	return max(kinds[0], kinds[1])
}

// CallKind is the kind of a function's result, see chapter 2.
func CallKind(fn int, kinds []int) int {
	called, there := functionTable()[fn]
	if !there {
		return -1
	}
	for _, kind := range kinds {
		if !isKind(kind) {
			return -1
		}
	}
	return called.gives(kinds)
}

// Call works out a function, see chapter 2.
func Call(fn int, args []Value) (Value, int) {
	if len(args) > MaxArgs {
		return Value{}, ErrBad
	}
	var kinds []int
	withNull := false
	for _, arg := range args {
		if !ValueOK(arg) {
			return Value{}, ErrBad
		}
		kinds = append(kinds, arg.Kind)
		withNull = withNull || arg.Kind == Null
	}
	called, there := functionTable()[fn]
	if !there || called.gives(kinds) == -1 {
		return Value{}, ErrType
	}
	if withNull && fn != FnNullif {
		return Value{}, OK
	}
	return called.work(args)
}

func callAbs(args []Value) (Value, int) {
	if args[0].N >= 0 {
		return args[0], OK
	}
	return Unary(OpNeg, args[0])
}

func callLength(args []Value) (Value, int) {
	return Value{Kind: Int, N: charCount(args[0].S)}, OK
}

func callLower(args []Value) (Value, int) {
	return shiftedLetters(args[0].S, 'A', 'Z', 'a'-'A'), OK
}

func callUpper(args []Value) (Value, int) {
	return shiftedLetters(args[0].S, 'a', 'z', 'A'-'a'), OK
}

func shiftedLetters(s string, first, last, shift rune) Value {
	return textValue(strings.Map(func(c rune) rune {
		if first <= c && c <= last {
			return c + shift
		}
		return c
	}, s))
}

func callSubstr(args []Value) (Value, int) {
	from, count := args[1].N, args[2].N
	if count < 0 {
		return Value{}, ErrCast
	}
	end, code := addInts(from, count)
	if code != OK {
		end = math.MaxInt
	}
	var piece strings.Builder
	number := 0
	for _, c := range args[0].S {
		number++
		if from <= number && number < end {
			piece.WriteRune(c)
		}
	}
	return textValue(piece.String()), OK
}

func callNullif(args []Value) (Value, int) {
	equal, code := Binary(OpEq, args[0], args[1])
	if code != OK || equal == boolValue(true) {
		return Value{}, code
	}
	return args[0], OK
}

func callYear(args []Value) (Value, int) {
	year, _, _, code := DateParts(args[0].N)
	return numbered(Int, year, code)
}

func callMonth(args []Value) (Value, int) {
	_, month, _, code := DateParts(args[0].N)
	return numbered(Int, month, code)
}

func callDay(args []Value) (Value, int) {
	_, _, day, code := DateParts(args[0].N)
	return numbered(Int, day, code)
}

func callRound(args []Value) (Value, int) {
	n, code := decUnits(wholeOf(args[0].N))
	return numbered(Dec, n, code)
}

func callTrim(args []Value) (Value, int) {
	return textValue(strings.Trim(args[0].S, " ")), OK
}

func callLeast(args []Value) (Value, int) {
	if orderOf(args[0], args[1]) <= 0 {
		return args[0], OK
	}
	return args[1], OK
}

func callGreatest(args []Value) (Value, int) {
	if orderOf(args[0], args[1]) >= 0 {
		return args[0], OK
	}
	return args[1], OK
}

// DateOf is the number of a day, and a code; see chapter 2.
func DateOf(y, m, d int) (int, int) {
	if !within(y, 1, 9999) || !within(m, 1, 12) || !within(d, 1, monthDays(y, m)) {
		return 0, ErrCast
	}
	n := MinDate + daysBefore(y) + d - 1
	for month := 1; month < m; month++ {
		n += monthDays(y, month)
	}
	return n, OK
}

// daysBefore counts the days from 0001-01-01 up to a year's first.
func daysBefore(year int) int {
	past := year - 1
	return past*365 + past/4 - past/100 + past/400
}

func monthDays(year, month int) int {
	switch month {
	case 2:
		if year%4 == 0 && (year%100 != 0 || year%400 == 0) {
			return 29
		}
		return 28
	case 4, 6, 9, 11:
		return 30
	}
	return 31
}

// DateParts tells year, month, day and code of a day's number, see chapter 2.
func DateParts(n int) (int, int, int, int) {
	if !within(n, MinDate, MaxDate) {
		return 0, 0, 0, ErrCast
	}
	days := n - MinDate
	// Years of 366 days never reach too far, and fall short by no more than some twenty.
	year := days/366 + 1
	for daysBefore(year+1) <= days {
		year++
	}
	days -= daysBefore(year)
	month := 1
	for days >= monthDays(year, month) {
		days -= monthDays(year, month)
		month++
	}
	return year, month, days + 1, OK
}

// Show writes a value as a literal, see chapter 2.
func Show(v Value) string {
	if !ValueOK(v) {
		return "?"
	}
	text := plainText(v)
	switch v.Kind {
	case Text:
		return quotedBy("'", text)
	case Bool:
		return inCapitals(text)
	case Date:
		return "DATE '" + text + "'"
	case Dec:
		if !strings.Contains(text, ".") {
			return text + ".0"
		}
		fallthrough
	default:
		return text
	}
}

// Plain writes a value as an answer shows it, see chapter 2.
func Plain(v Value) string {
	if !ValueOK(v) {
		return "?"
	}
	return plainText(v)
}

func plainText(v Value) string {
	switch v.Kind {
	case Int:
		return strconv.Itoa(v.N)
	case Dec:
		return decText(v.N)
	case Text:
		return v.S
	case Bool:
		return strconv.FormatBool(v.N == 1)
	case Date:
		return dateText(v.N)
	}
	return "NULL"
}

func decText(units int) string {
	text := strconv.Itoa(units / Scale)
	if units < 0 && units/Scale == 0 {
		text = "-0"
	}
	fraction := padded(int(magnitude(units)%Scale), 4)
	return strings.TrimSuffix(text+"."+strings.TrimRight(fraction, "0"), ".")
}

func dateText(n int) string {
	year, month, day, _ := DateParts(n)
	return padded(year, 4) + "-" + padded(month, 2) + "-" + padded(day, 2)
}

// padded writes a number with noughts ahead, up to a width that it never exceeds.
func padded(n, width int) string {
	digits := strconv.Itoa(n)
	return strings.Repeat("0", width-len(digits)) + digits
}
