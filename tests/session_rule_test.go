package tests

import (
	"fmt"
	"slices"
	"strings"

	"loop.example/g00115/impl"
)

// A desk by other means: all that an ask may be told stands in the document's order, each with the Op that it is of, and the
// first that is so is told. An ask of which nothing is so is none.

// saying: what may be told of an Op, when it is so, and the image that is put behind then.
type saying struct {
	op   int
	isSo bool
	text string
	put  []impl.Image
}

// tellingOf: an outcome as an answer.
func tellingOf(o impl.Outcome) string {
	return strings.TrimSuffix(toldOfOutcome(o), fmt.Sprintf(" +%d", o.Fuel))
}

// sayingsOf: all that may be told of an ask, where these images stand on the desk.
func sayingsOf(images []impl.Image, a impl.Ask) []saying {
	tree, place := impl.Parse(a.Text)
	made, fault, _ := impl.Compile(tree)
	_, _, nameFault, _ := impl.Resolve(tree)
	read, isImage := impl.ReadImage(a.Text)
	var asked impl.Image
	isThere := 0 <= a.At && a.At < len(images)
	if isThere {
		asked = images[a.At]
	}
	walked, isWalked := impl.Walk(tree, a.Fuel)
	ran, isRun := impl.Run(asked, a.Fuel)
	number := fmt.Sprintf("image %d", len(images))
	return []saying{
		{op: impl.AskCompile, isSo: place != -1, text: fmt.Sprintf("fault %d", place)},
		{op: impl.AskCompile, isSo: fault != 0, text: fmt.Sprintf("wrong %d", fault)},
		{op: impl.AskCompile, isSo: len(images) < 20, text: number, put: []impl.Image{made}},
		{op: impl.AskLoad, isSo: !isImage, text: "form"},
		{op: impl.AskLoad, isSo: impl.Verify(read) != -1, text: "unsound"},
		{op: impl.AskLoad, isSo: len(images) < 20, text: number, put: []impl.Image{read}},
		{op: impl.AskRun, isSo: isThere && isRun, text: tellingOf(ran)},
		{op: impl.AskWalk, isSo: place != -1, text: fmt.Sprintf("fault %d", place)},
		{op: impl.AskWalk, isSo: nameFault != 0, text: fmt.Sprintf("wrong %d", nameFault)},
		{op: impl.AskWalk, isSo: isWalked, text: tellingOf(walked)},
		{op: impl.AskShow, isSo: isThere, text: impl.ShowFunc(asked, 0)},
	}
}

// askedByRule: the images that stand on the desk behind an ask, and what it is told.
func askedByRule(images []impl.Image, a impl.Ask) ([]impl.Image, string) {
	for _, s := range sayingsOf(images, a) {
		if s.op == a.Op && s.isSo {
			return slices.Concat(images, s.put), s.text
		}
	}
	return images, "no"
}
