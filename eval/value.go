package eval

import (
	"cmp"
	"strconv"

	"shipwright/api"
)

// value is what an expression comes to: a number, a truth, a text or a record. None is changed once it is there, and so what is handed on or put into something needs no copy.
type value interface{ isValue() }

type (
	number int64
	truth  bool
	text   string
	record map[api.Use]value // a struct's, by the UseFields of its fields
)

func (number) isValue() {}
func (truth) isValue()  {}
func (text) isValue()   {}
func (record) isValue() {}

// shown is what println says of a value; nothing of a record, which types lets nobody print.
func shown(v value) string {
	switch v := v.(type) {
	case number:
		return strconv.FormatInt(int64(v), 10)
	case truth:
		return strconv.FormatBool(bool(v))
	case text:
		return string(v)
	}
	return ""
}

// opposite is what the sign of a NodeUnary makes of a value: each sign goes with one type alone.
func opposite(v value) value {
	switch v := v.(type) {
	case number:
		return -v
	case truth:
		return !v
	}
	return nil
}

// operation is what a sign makes of two values.
type operation func(a, b value) value

// operations are those of all signs of NodeBinarys. && and || get to theirs just where the first value does not tell by itself.
func operations() map[string]operation {
	second := func(_, b value) value { return b }
	return map[string]operation{
		"&&": second,
		"||": second,
		"==": func(a, b value) value { return truth(a == b) },
		"!=": func(a, b value) value { return truth(a != b) },
		"<":  func(a, b value) value { return truth(compared(a, b) < 0) },
		"<=": func(a, b value) value { return truth(compared(a, b) <= 0) },
		">":  func(a, b value) value { return truth(compared(a, b) > 0) },
		">=": func(a, b value) value { return truth(compared(a, b) >= 0) },
		"+":  sum,
		"-":  func(a, b value) value { return a.(number) - b.(number) },
		"*":  func(a, b value) value { return a.(number) * b.(number) },
		"/":  func(a, b value) value { return a.(number) / divisor(b) },
		"%":  func(a, b value) value { return a.(number) % divisor(b) },
	}
}

// compared is below 0, 0 or above 0, as the first one of two numbers or texts is below, at or above the second one.
func compared(a, b value) int {
	switch a := a.(type) {
	case number:
		return cmp.Compare(a, b.(number))
	case text:
		return cmp.Compare(a, b.(text))
	}
	return 0
}

// sum is of two numbers their sum, of two texts one behind the other.
func sum(a, b value) value {
	switch a := a.(type) {
	case number:
		return a + b.(number)
	case text:
		return joined(a, b.(text))
	}
	return nil
}

// joined is one text behind the other, if that is not too long.
func joined(a, b text) text {
	if len(a)+len(b) > api.MaxString {
		giveUp("long")
	}
	return a + b
}

// divisor is a number by which another one may be divided.
func divisor(v value) number {
	by := v.(number)
	if by == 0 {
		giveUp("divide")
	}
	return by
}
