package tests

import (
	"bytes"
	"math"

	"loop.example/g00115/impl"
)

// What is done to values by other means: a value is a value of Go (nothing, a bool, a float, a text, a function's number),
// numbers are worked with by floats, and texts by lists of bytes.

// fieldsOfKinds: the one field that a Value of each Kind may have, and what that may be.
var fieldsOfKinds = map[int]struct {
	field string
	may   func(v impl.Value) bool
}{
	0: {"", func(v impl.Value) bool { return true }},
	1: {"Num", func(v impl.Value) bool { return v.Num < 2 }},
	2: {"Num", func(v impl.Value) bool { return true }},
	3: {"Text", func(v impl.Value) bool { return len(v.Text) < 201 }},
	4: {"Ref", func(v impl.Value) bool { return v.Ref > -1 }},
}

func valueOkByRule(v impl.Value) bool {
	of, known := fieldsOfKinds[v.Kind]
	if !known || !of.may(v) {
		return false
	}
	return (of.field == "Num" || v.Num == 0) && (of.field == "Text" || v.Text == "") && (of.field == "Ref" || v.Ref == 0)
}

type functionNumber int

type kindThatIsNone impl.Value

// meantBy is the value of Go that a Value tells, by the field of its Kind alone.
func meantBy(v impl.Value) any {
	switch v.Kind {
	case 0:
		return nil
	case 1:
		return v.Num > 0
	case 2:
		return math.Float64frombits(v.Num)
	case 3:
		return v.Text
	case 4:
		return functionNumber(v.Ref)
	}
	return kindThatIsNone(v)
}

func trueByRule(v impl.Value) bool {
	switch x := meantBy(v).(type) {
	case float64:
		return x < 0 || x > 0
	default:
		return x != nil && x != false && x != ""
	}
}

func shownValueByRule(v impl.Value) string {
	switch x := meantBy(v).(type) {
	case nil:
		return "none"
	case bool:
		return map[bool]string{false: "false", true: "true"}[x]
	case float64:
		return shownByFloats(v.Num)
	case string:
		return x
	case functionNumber:
		return "fun"
	}
	return ""
}

func sameByRule(a impl.Value, b impl.Value) bool {
	x, xIs := meantBy(a).(float64)
	y, yIs := meantBy(b).(float64)
	if xIs && yIs {
		return x == y
	}
	return a.Kind == b.Kind && a.Num == b.Num && a.Text == b.Text && a.Ref == b.Ref
}

// doneToValues is what is done to them: a value, or, where that is thrown, a text.
type doneToValues struct {
	value impl.Value
	text  string
}

func truthByRule(is bool) doneToValues {
	return doneToValues{value: impl.Value{Kind: 1, Num: map[bool]uint64{true: 1}[is]}}
}

// numberByFloat: a NaN of floats may have any f.
func numberByFloat(x float64) doneToValues {
	num := math.Float64bits(x)
	if x != x {
		num = 0x7ff8 << 48
	}
	return doneToValues{value: impl.Value{Kind: 2, Num: num}}
}

func numbersByRule(op int, x float64, y float64) (doneToValues, bool) {
	sums := map[int]float64{1: x + y, 2: x - y, 3: x * y, 4: x / y, 5: math.Mod(x, y)}
	if sum, is := sums[op]; is {
		return numberByFloat(sum), true
	}
	holds, is := map[int]bool{6: x < y, 7: x <= y, 8: x > y, 9: x >= y}[op]
	return truthByRule(holds), is
}

func textsByRule(op int, x []byte, y []byte) (doneToValues, bool) {
	if both := append(bytes.Clone(x), y...); op == 1 && len(both) < 201 {
		return doneToValues{value: impl.Value{Kind: 3, Text: string(both)}}, true
	} else if op == 1 {
		return doneToValues{text: "long"}, true
	}
	stand := bytes.Compare(x, y)
	holds, is := map[int]bool{6: stand == -1, 7: stand != 1, 8: stand == 1, 9: stand != -1}[op]
	return truthByRule(holds), is
}

func binaryByRule(op int, a impl.Value, b impl.Value) doneToValues {
	var done doneToValues
	is := op == 10 || op == 11
	switch x := meantBy(a).(type) {
	case float64:
		if y, both := meantBy(b).(float64); both && !is {
			done, is = numbersByRule(op, x, y)
		}
	case string:
		if y, both := meantBy(b).(string); both && !is {
			done, is = textsByRule(op, []byte(x), []byte(y))
		}
	}
	switch {
	case op == 10 || op == 11:
		return truthByRule(sameByRule(a, b) == (op == 10))
	case !is:
		return doneToValues{text: "type"}
	}
	return done
}

func minusByRule(v impl.Value) doneToValues {
	if x, is := meantBy(v).(float64); is {
		return numberByFloat(-x)
	}
	return doneToValues{text: "type"}
}
