package tests

import (
	"fmt"
	"strconv"
	"strings"

	"loop.example/g00115/impl"
)

// What is shown of code by other means: each Op has a line of a text, in which its numbers are filled in; the places that
// jumps lead to are looked for one by one, from the first place that there may be to the last; Logs are compared as texts.

// linesOfOps: A and B stand for the numbers of the instruction.
const linesOfOps = `
const A
get A
put A
newcell A
getcell A
putcell A
getcap A
putcap A
binary A B
not
minus
jump A
ifnot A
if A
fun A
call A B
return
throw
print
`

func showInsByRule(i impl.Ins) string {
	for n, line := range strings.Split(linesOfOps, "\n") {
		if n == i.Op {
			return strings.NewReplacer("A", fmt.Sprint(i.A), "B", fmt.Sprint(i.B)).Replace(line)
		}
	}
	return ""
}

func showFuncByRule(x impl.Image, fun int) string {
	if !imageByRule(x) || !isPlace(fun, len(x.Funcs)) {
		return ""
	}
	shown := ""
	for _, i := range x.Funcs[fun].Code {
		shown += fmt.Sprintln(showInsByRule(i))
	}
	return shown
}

func countByRule(x impl.Image, fun int) int {
	_, reached, ok := statesByRule(x, fun)
	if !ok {
		return -1
	}
	return strings.Count(fmt.Sprint(reached), "true")
}

// jumpsTo: whether a jump of the code leads to this place.
func jumpsTo(code []impl.Ins, place int) bool {
	for _, i := range code {
		if word := wordsOfOps[i.Op-1]; (word == "jump" || strings.HasPrefix(word, "if")) && i.A == place {
			return true
		}
	}
	return false
}

func jumpsByRule(x impl.Image, fun int) []int {
	var places []int
	if !imageByRule(x) || !isPlace(fun, len(x.Funcs)) {
		return places
	}
	for place := range 301 {
		if jumpsTo(x.Funcs[fun].Code, place) {
			places = append(places, place)
		}
	}
	return places
}

// lineOf: a Log as one text, of which no two are alike; a beginning of the one is a beginning of the other.
func lineOf(log []string) string {
	var line strings.Builder
	for _, text := range log {
		line.WriteString(strconv.Quote(text) + "\n")
	}
	return line.String()
}

func prefixByRule(a impl.Outcome, b impl.Outcome) bool {
	return strings.HasPrefix(lineOf(b.Log), lineOf(a.Log))
}
