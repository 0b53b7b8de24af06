package impl

import "strconv"

const FtNone = 0
const FtKind = 1
const FtOver = 2
const FtKey = 3
const FtFuel = 4
const FtMany = 5
const VaNone = 0
const VaNumber = 1
const VaText = 2
const VaThing = 3
const VaFunc = 4
const VaTable = 5
const MaxText = 60

const leastNumber = -999999999
const greatestNumber = 999999999

type Value struct {
	Kind   int64
	Number int64
	Text   string
}

// A shape holds just what a right Value of its kind has, so that whoever asks
// for a number or a text cannot be handed one by a Value that is wrong.
type shape interface {
	value() Value
}

type noneShape struct{}

type numberShape struct{ number int64 }

type textShape struct{ text string }

type placeShape struct{ kind, which int64 }

type wrongShape struct{}

func (s noneShape) value() Value { return Value{} }

func (s numberShape) value() Value { return Value{Kind: VaNumber, Number: s.number} }

func (s textShape) value() Value { return Value{Kind: VaText, Text: s.text} }

func (s placeShape) value() Value { return Value{Kind: s.kind, Number: s.which} }

func (s wrongShape) value() Value { return Value{} }

func shapeOf(v Value) shape {
	s := shapeByKind(v)
	// A field that the kind does not have is lost in its shape: the Value that
	// the shape makes differs where such a field was not zero.
	if shapeOk(s) && s.value() == v {
		return s
	}
	return wrongShape{}
}

func shapeByKind(v Value) shape {
	switch v.Kind {
	case VaNone:
		return noneShape{}
	case VaNumber:
		return numberShape{v.Number}
	case VaText:
		return textShape{v.Text}
	case VaThing, VaFunc, VaTable:
		return placeShape{v.Kind, v.Number}
	}
	return wrongShape{}
}

func shapeOk(s shape) bool {
	switch s := s.(type) {
	case noneShape:
		return true
	case numberShape:
		return numberOk(s.number)
	case textShape:
		return textOk(s.text)
	case placeShape:
		return s.which >= 0
	}
	return false
}

func numberOk(n int64) bool { return leastNumber <= n && n <= greatestNumber }

func textOk(s string) bool {
	if len(s) > MaxText {
		return false
	}
	// By bytes, not by runes: a text is bytes.
	for i := range len(s) {
		if !textByte(s[i]) {
			return false
		}
	}
	return true
}

func textByte(c byte) bool {
	return 'a' <= c && c <= 'z' || '0' <= c && c <= '9' || c == '-' || c == ' '
}

func numberOf(v Value) (int64, bool) {
	switch s := shapeOf(v).(type) {
	case numberShape:
		return s.number, true
	}
	return 0, false
}

func numbersOf(a Value, b Value) (int64, int64, bool) {
	x, okX := numberOf(a)
	y, okY := numberOf(b)
	return x, y, okX && okY
}

// reckoned takes what came of two right numbers: even their product is far from
// the ends of int64, so that n is never one that wrapped round.
func reckoned(n int64) (Value, int64) {
	if !numberOk(n) {
		return Value{}, FtOver
	}
	return numberShape{n}.value(), FtNone
}

func oneOrNought(is bool) Value {
	if is {
		return numberShape{1}.value()
	}
	return numberShape{0}.value()
}

func ValueOk(v Value) bool { return shapeOk(shapeOf(v)) }

func Plus(a Value, b Value) (Value, int64) {
	x, y, ok := numbersOf(a, b)
	if !ok {
		return Value{}, FtKind
	}
	return reckoned(x + y)
}

func Less(a Value, b Value) (Value, int64) {
	x, y, ok := numbersOf(a, b)
	if !ok {
		return Value{}, FtKind
	}
	return reckoned(x - y)
}

func Times(a Value, b Value) (Value, int64) {
	x, y, ok := numbersOf(a, b)
	if !ok {
		return Value{}, FtKind
	}
	return reckoned(x * y)
}

func Below(a Value, b Value) (Value, int64) {
	x, y, ok := numbersOf(a, b)
	if !ok {
		return Value{}, FtKind
	}
	return oneOrNought(x < y), FtNone
}

func Same(a Value, b Value) Value { return oneOrNought(a == b) }

func Truth(v Value) (bool, int64) {
	n, ok := numberOf(v)
	if !ok {
		return false, FtKind
	}
	return n != 0, FtNone
}

func TextOf(v Value) (string, int64) {
	switch s := shapeOf(v).(type) {
	case noneShape:
		return "none", FtNone
	case numberShape:
		return strconv.FormatInt(s.number, 10), FtNone
	case textShape:
		return s.text, FtNone
	}
	return "", FtKind
}

func Joined(a Value, b Value) (Value, int64) {
	first, fault := TextOf(a)
	if fault != FtNone {
		return Value{}, fault
	}
	second, fault := TextOf(b)
	if fault != FtNone {
		return Value{}, fault
	}
	if len(first)+len(second) > MaxText {
		return Value{}, FtOver
	}
	return textShape{first + second}.value(), FtNone
}
