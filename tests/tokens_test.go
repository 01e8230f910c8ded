package tests

import (
	"regexp"
	"slices"
	"strings"
	"testing"

	"loop.example/g00115/impl"
)

// Promise 8: tokens stand in order, each where its text is; what is scanned with other blanks is the same.

const wordsOfLanguage = "let print if else while return throw try catch fun true false none"

const marksOfLanguage = "== != <= >= && || + - * / % < > = ! ( ) { } , ;"

const blanks = " \n\t"

var tokenForm = regexp.MustCompile(`^(?:([A-Za-z_][A-Za-z_0-9]*)|([0-9]+(?:\.[0-9]+)?(?:e[-+]?[0-9]+)?)|("[ !#-~]*")|(==|!=|<=|>=|&&|\|\||[-+*/%<>=!(){},;]))`)

// tokenByRule: the token that source begins with, and its size; 0 when it begins with a fault.
func tokenByRule(source string) (impl.Token, int) {
	found := tokenForm.FindStringSubmatch(source)
	if found == nil {
		return impl.Token{}, 0
	}
	name, number, text, mark := found[1], found[2], found[3], found[4]
	switch {
	case slices.Contains(strings.Fields(wordsOfLanguage), name):
		return impl.Token{Kind: impl.TokenWord, Text: name}, len(name)
	case len(name) > 12:
		return impl.Token{}, 0
	case name != "":
		return impl.Token{Kind: impl.TokenName, Text: name}, len(name)
	case text != "":
		return impl.Token{Kind: impl.TokenText, Text: text[1 : len(text)-1]}, len(text)
	case mark != "":
		return impl.Token{Kind: impl.TokenMark, Text: mark}, len(mark)
	}
	num, ok := readByRule(number)
	if !ok {
		return impl.Token{}, 0
	}
	return impl.Token{Kind: impl.TokenNumber, Text: number, Num: num}, len(number)
}

func scanByRule(source string) ([]impl.Token, int) {
	if len(source) > 600 {
		return nil, 600
	}
	var tokens []impl.Token
	for at := 0; ; {
		at += len(source[at:]) - len(strings.TrimLeft(source[at:], blanks))
		if at == len(source) {
			return tokens, -1
		}
		token, size := tokenByRule(source[at:])
		if size == 0 || len(tokens) == 200 {
			return nil, at
		}
		token.At = at
		tokens = append(tokens, token)
		at += size
	}
}

// standing: what a token looks like in a source.
func standing(token impl.Token) string {
	if token.Kind == impl.TokenText {
		return `"` + token.Text + `"`
	}
	return token.Text
}

// checkInPlace: tokens stand in order, each where its text is, and there are blanks alone between them.
func checkInPlace(t *testing.T, source string, tokens []impl.Token) {
	t.Helper()
	end := 0
	for i, token := range tokens {
		if token.At < end || token.At > len(source) || strings.Trim(source[end:token.At], blanks) != "" {
			t.Fatalf("%q: token %d, %+v, begins too early, or more than blanks stand ahead of it", source, i, token)
		}
		if !strings.HasPrefix(source[token.At:], standing(token)) {
			t.Fatalf("%q: token %d, %+v, is not what stands there", source, i, token)
		}
		end = token.At + len(standing(token))
	}
	if strings.Trim(source[end:], blanks) != "" {
		t.Fatalf("%q: more than blanks stand behind the last token", source)
	}
}

// checkScan holds Scan against the rule and the promise, and answers the tokens.
func checkScan(t *testing.T, source string) []impl.Token {
	t.Helper()
	got, fault := impl.Scan(source)
	want, wantFault := scanByRule(source)
	if fault != wantFault || !slices.Equal(got, want) {
		t.Fatalf("Scan(%q) = %+v, %d, want %+v, %d", source, got, fault, want, wantFault)
	}
	if fault == -1 {
		checkInPlace(t, source, got)
	} else if len(got) > 0 {
		t.Fatalf("Scan(%q) has tokens beside a fault", source)
	}
	return got
}

func checkFault(t *testing.T, source string, want int) {
	t.Helper()
	if got, fault := impl.Scan(source); fault != want || len(got) > 0 {
		t.Errorf("Scan(%q) = %+v, %d, want nothing, %d", source, got, fault, want)
	}
	checkScan(t, source)
}

// checkTokens: whether source is these tokens; in want each is its kind's first letter and what stands there.
func checkTokens(t *testing.T, source string, want ...string) {
	t.Helper()
	got, fault := impl.Scan(source)
	var told []string
	for _, token := range got {
		if token.Kind < 1 || token.Kind > 5 {
			t.Fatalf("Scan(%q) has a token of kind %d", source, token.Kind)
		}
		told = append(told, "?nftmw"[token.Kind:token.Kind+1]+standing(token))
	}
	if fault != -1 || !slices.Equal(told, want) {
		t.Errorf("Scan(%q) = %q, %d, want %q, -1", source, told, fault, want)
	}
	checkScan(t, source)
}

// withoutPlaces: the tokens, but for At.
func withoutPlaces(tokens []impl.Token) []impl.Token {
	out := slices.Clone(tokens)
	for i := range out {
		out[i].At = 0
	}
	return out
}

func programs() []string {
	return []string{
		"let x=1;print x;",
		"let x1 = 2.5e1;\n\"a b\"<=",
		"fun add(a, b) { return a + b; }\nprint add(1, 2.5) * 3;",
		"let n = 10; while (n > 0) { n = n - 1; if (n % 2 == 0) { print n; } else { print -n; } }",
		"try { throw \"oh no\"; } catch e { print \"caught: \" + e; }",
		"fun make() { let c = 0; return fun() { c = c + 1; return c; }; } let f = make(); f(); print f();",
		"if (!true || false && none != 0) { print 1e3; } else if (a <= b) { print 1e-3; } else { print 1.5e+10; }",
		"print a>=b;print a<b;print a==b;print a>b;print a/b;print --a;print !!a;",
		"\tlet  long_name_12 = \"\" ;\n\n\tprint long_name_12;\n",
		"{}{}(){}((()));;,,;{",
		"let A=0.1;let _=007;let z_Z=1e300;",
	}
}

func TestKindsAndLimitsOfTokens(t *testing.T) {
	if impl.MaxSource != 600 || impl.MaxTokens != 200 || impl.MaxName != 12 {
		t.Error("a limit is not the document's")
	}
	if impl.TokenName != 1 || impl.TokenNumber != 2 || impl.TokenText != 3 || impl.TokenMark != 4 || impl.TokenWord != 5 {
		t.Error("a kind is not the document's")
	}
}

func TestWordsAreTheList(t *testing.T) {
	want := strings.Fields(wordsOfLanguage)
	words := impl.Words()
	if !slices.Equal(words, want) {
		t.Fatalf("Words() = %q, want %q", words, want)
	}
	for i := range words {
		words[i] = "x"
	}
	_ = append(words[:0], "y", "z")
	if again := impl.Words(); !slices.Equal(again, want) {
		t.Errorf("Words() = %q, once its answer was written into", again)
	}
	checkTokens(t, "let x", "wlet", "nx")
}

func TestScanOfTokensThatAreKnown(t *testing.T) {
	got, fault := impl.Scan("let x1 = 2.5e1;\n\"a b\"<= e")
	want := []impl.Token{
		{Kind: 5, Text: "let", At: 0}, {Kind: 1, Text: "x1", At: 4}, {Kind: 4, Text: "=", At: 7}, {Kind: 2, Text: "2.5e1", Num: 0x4039000000000000, At: 9},
		{Kind: 4, Text: ";", At: 14}, {Kind: 3, Text: "a b", At: 16}, {Kind: 4, Text: "<=", At: 21}, {Kind: 1, Text: "e", At: 24},
	}
	if fault != -1 || !slices.Equal(got, want) {
		t.Errorf("got %+v, %d, want %+v, -1", got, fault, want)
	}
}

func TestScanOfPrograms(t *testing.T) {
	for _, source := range programs() {
		if tokens := checkScan(t, source); len(tokens) == 0 {
			t.Errorf("%q has no tokens", source)
		}
		// Each beginning and end of a program is a source, too; many of them are faults.
		for at := range source {
			checkScan(t, source[:at])
			checkScan(t, source[at:])
		}
	}
}

// Each byte of a program is turned into one of each kind, and into those beside their bounds.
func TestScanOfSpoiledPrograms(t *testing.T) {
	turned := strings.Split("\x00 \t \n \x1f ! # % & ( * + - . / 0 9 : ; < = > @ A Z [ _ ` a e z { | } ~ \x7f \" \x80 \xff", " ")
	for _, source := range programs() {
		for at := range source {
			for _, other := range append(turned, " ") {
				checkScan(t, source[:at]+other+source[at+1:])
			}
		}
	}
}

func TestScanOfNothing(t *testing.T) {
	for _, source := range textsOver(blanks, 5) {
		checkTokens(t, source)
	}
	for _, size := range []int{599, 600} {
		checkTokens(t, strings.Repeat("\n", size))
		checkTokens(t, strings.Repeat(" \t", size)[:size])
	}
}

func TestBlanksAreThree(t *testing.T) {
	for b := range 256 {
		between := string([]byte{byte(b)})
		source := ";" + between + ";"
		if strings.Contains(blanks, between) {
			checkTokens(t, source, "m;", "m;")
			checkTokens(t, between+";", "m;")
			checkTokens(t, ";"+between, "m;")
			checkTokens(t, "a"+between+"1", "na", "f1")
			continue
		}
		if tokens := checkScan(t, source); len(tokens) == 2 {
			t.Errorf("byte %d is a blank", b)
		}
	}
}

// otherBlanks writes the tokens again, with blanks chosen by a seed ahead, between and behind.
func otherBlanks(tokens []impl.Token, seed int) string {
	runs := []string{" ", "\n", "\t", "  ", "\n\t", " \n ", "\t\t\n\n "}
	var out strings.Builder
	if seed%2 == 1 {
		out.WriteString(runs[seed%len(runs)])
	}
	for i, token := range tokens {
		if i > 0 {
			out.WriteString(runs[(seed+i*(1+seed%5))%len(runs)])
		}
		out.WriteString(standing(token))
	}
	if seed%3 > 0 {
		out.WriteString(runs[(seed+3)%len(runs)])
	}
	return out.String()
}

func TestOtherBlanksAreTheSame(t *testing.T) {
	for _, source := range programs() {
		tokens := withoutPlaces(checkScan(t, source))
		for seed := range 42 {
			other := otherBlanks(tokens, seed)
			if len(other) > impl.MaxSource {
				t.Fatalf("%q is too long", other)
			}
			if got := withoutPlaces(checkScan(t, other)); !slices.Equal(got, tokens) {
				t.Fatalf("%q is %+v, but %q is %+v", source, tokens, other, got)
			}
		}
	}
}

// A blank that is one more, wherever blanks stand already outside of texts, moves what stands behind it, and no more.
func TestOneMoreBlankMovesWhatIsBehind(t *testing.T) {
	for _, source := range programs() {
		tokens := checkScan(t, source)
		for _, token := range tokens {
			for _, blank := range strings.Split(blanks, "") {
				want := slices.Clone(tokens)
				for i := range want {
					if want[i].At >= token.At {
						want[i].At++
					}
				}
				more := source[:token.At] + blank + source[token.At:]
				if got := checkScan(t, more); !slices.Equal(got, want) {
					t.Fatalf("%q is %+v, want %+v", more, got, want)
				}
			}
		}
	}
}

// Texts and marks that no mark is longer than need no blank around them.
func TestBlanksMayBeMissing(t *testing.T) {
	for _, mark := range strings.Fields("( ) { } , ; + - * / % == != <= >= && ||") {
		checkTokens(t, "a"+mark+"b", "na", "m"+mark, "nb")
		checkTokens(t, "1"+mark+"2.5", "f1", "m"+mark, "f2.5")
		checkTokens(t, `"a"`+mark+`"b"`, `t"a"`, "m"+mark, `t"b"`)
		checkTokens(t, "print"+mark+"none", "wprint", "m"+mark, "wnone")
	}
	checkTokens(t, `"a""b"`, `t"a"`, `t"b"`)
	checkTokens(t, `a"b"c`, "na", `t"b"`, "nc")
	checkTokens(t, `1"b"1`, "f1", `t"b"`, "f1")
	checkTokens(t, `1a`, "f1", "na")
	checkTokens(t, `1print2`, "f1", "nprint2")
	checkTokens(t, `1print 2`, "f1", "wprint", "f2")
	checkTokens(t, `0x1f`, "f0", "nx1f")
}

func TestNames(t *testing.T) {
	const twelve = "abcdefghijkl"
	for _, name := range []string{"a", "z", "A", "Z", "_", "__", "a1", "_0", "a0123456789_", twelve, strings.ToUpper(twelve), "____________", "a_b", "aZ9"} {
		checkTokens(t, name, "n"+name)
		checkTokens(t, " "+name+"\n", "n"+name)
		checkTokens(t, name+"+"+name, "n"+name, "m+", "n"+name)
	}
	for _, long := range []string{twelve + "m", twelve + "1", twelve + "_", "A" + twelve, strings.Repeat("_", 13), strings.Repeat("x", 600), "returnreturnreturn", "a0123456789_0"} {
		checkFault(t, long, 0)
		checkFault(t, ("; " + long)[:min(len(long)+2, 600)], 2)
		checkFault(t, "1"+long[:13], 1)
	}
	checkTokens(t, twelve+" m", "n"+twelve, "nm")
	checkTokens(t, twelve+"(1)", "n"+twelve, "m(", "f1", "m)")
	checkTokens(t, "1"+twelve, "f1", "n"+twelve)
}

// Which bytes begin a name, and which go on with one.
func TestBytesOfNames(t *testing.T) {
	const letters = "abcdefghijklmnopqrstuvwxyzABCDEFGHIJKLMNOPQRSTUVWXYZ_"
	for b := range 256 {
		piece := string([]byte{byte(b)})
		tokens := checkScan(t, piece)
		if got := len(tokens) == 1 && tokens[0].Kind == impl.TokenName; got != strings.Contains(letters, piece) {
			t.Errorf("byte %d begins a name: %v", b, got)
		}
		tokens = checkScan(t, "q"+piece+"q")
		if got := len(tokens) == 1 && tokens[0].Text == "q"+piece+"q"; got != strings.Contains(letters+"0123456789", piece) {
			t.Errorf("byte %d goes on with a name: %v", b, got)
		}
	}
}

func TestWordsAreNoNames(t *testing.T) {
	for _, word := range strings.Fields(wordsOfLanguage) {
		checkTokens(t, word, "w"+word)
		checkTokens(t, " "+word+"("+word+")", "w"+word, "m(", "w"+word, "m)")
		for _, name := range []string{word + "s", word + "_", "_" + word, word + "1", word + word, word[:len(word)-1], word[1:], strings.ToUpper(word), strings.ToUpper(word[:1]) + word[1:]} {
			checkTokens(t, name, "n"+name)
		}
		checkTokens(t, "1"+word, "f1", "w"+word)
		checkTokens(t, `"`+word+`"`, `t"`+word+`"`)
	}
	for _, name := range strings.Fields("var for function null nil do in and or not catchx lets iff fund elseif nonelse") {
		checkTokens(t, name, "n"+name)
	}
}

func TestNumbers(t *testing.T) {
	for _, c := range []struct {
		text string
		want uint64
	}{
		{"0", 0}, {"00", 0}, {"0.0", 0}, {"1", one}, {"01", one}, {"1.0", one}, {"10e-1", one}, {"0.1e1", one}, {"1e0", one}, {"1e+0", one}, {"1e-0", one}, {"1e000", one},
		{"25", 0x4039000000000000}, {"2.5e1", 0x4039000000000000}, {"2.5e+1", 0x4039000000000000}, {"250e-1", 0x4039000000000000}, {"0.1", 0x3fb999999999999a}, {"1e-1", 0x3fb999999999999a}, {"1e23", tieOf1e23},
		{"1e308", 0x7fe1ccf385ebc8a0}, {"1e309", impl.Infinite}, {"5e-324", 1}, {"1e-400", 0}, {"9007199254740993", 0x4340000000000000},
		{nines(30), 0x46293e5939a08cea}, {noughts(29) + "1", one}, {"1." + noughts(30), one}, {noughts(29) + "1." + noughts(30) + "e+000", one},
	} {
		tokens := checkScan(t, c.text)
		want := impl.Token{Kind: impl.TokenNumber, Text: c.text, Num: c.want}
		if len(tokens) != 1 || tokens[0] != want {
			t.Errorf("Scan(%q) = %+v, want %+v", c.text, tokens, want)
		}
		checkTokens(t, " "+c.text+" ;", "f"+c.text, "m;")
		checkTokens(t, "-"+c.text, "m-", "f"+c.text)
	}
}

func TestWhereNumbersEnd(t *testing.T) {
	checkTokens(t, "1e", "f1", "ne")
	checkTokens(t, "1e+", "f1", "ne", "m+")
	checkTokens(t, "1e-", "f1", "ne", "m-")
	checkTokens(t, "1e+-1", "f1", "ne", "m+", "m-", "f1")
	checkTokens(t, "1e+a", "f1", "ne", "m+", "na")
	checkTokens(t, "1e 1", "f1", "ne", "f1")
	checkTokens(t, "1e+ 1", "f1", "ne", "m+", "f1")
	checkTokens(t, "1 e1", "f1", "ne1")
	checkTokens(t, "1ee1", "f1", "nee1")
	checkTokens(t, "1E1", "f1", "nE1")
	checkTokens(t, "1.5E1", "f1.5", "nE1")
	checkTokens(t, "1.5e", "f1.5", "ne")
	checkTokens(t, "1.5ex", "f1.5", "nex")
	checkTokens(t, "1.5e-x", "f1.5", "ne", "m-", "nx")
	checkTokens(t, "1.5e-2x", "f1.5e-2", "nx")
	checkTokens(t, "1.5e2e3", "f1.5e2", "ne3")
	checkTokens(t, "1e2e3", "f1e2", "ne3")
	checkTokens(t, "1e2+3", "f1e2", "m+", "f3")
	checkTokens(t, "1+2", "f1", "m+", "f2")
	checkTokens(t, "1-2e-3-4", "f1", "m-", "f2e-3", "m-", "f4")
	checkTokens(t, "1_0", "f1", "n_0")
	checkTokens(t, "e1", "ne1")
	checkTokens(t, "0 0", "f0", "f0")
	checkFault(t, "1.", 1)
	checkFault(t, "1. 5", 1)
	checkFault(t, "1.e5", 1)
	checkFault(t, "1.a", 1)
	checkFault(t, "12..5", 2)
	checkFault(t, "1.5.5", 3)
	checkFault(t, "1.5.", 3)
	checkFault(t, "1e5.5", 3)
	checkFault(t, "1e.5", 2)
	checkFault(t, ".5", 0)
	checkFault(t, "a.5", 1)
	checkFault(t, "- .5", 2)
}

// What ReadNumber refuses is a fault where the number begins, however far it goes.
func TestNumbersThatAreTooLong(t *testing.T) {
	for _, long := range []string{
		noughts(31), "1" + noughts(30), nines(31), nines(600), nines(31) + ".5", nines(31) + "e1", "1." + nines(31), "0." + noughts(31), "1." + nines(31) + "e5", nines(30) + "." + nines(31),
		"1e1000", "1e0000", "1e+0001", "1e-1000", "1.5e1000", "1.5e-0000", "1e" + noughts(598), nines(31) + ".", nines(31) + "&", "1e1000.",
	} {
		checkFault(t, long, 0)
		checkFault(t, (" ;" + long)[:min(len(long)+2, 600)], 2)
		if len(long) < 100 {
			checkFault(t, "x "+long+" & \"", 2)
		}
	}
	checkTokens(t, nines(30)+" "+nines(30), "f"+nines(30), "f"+nines(30))
	checkTokens(t, nines(30)+"."+nines(30)+"e-999", "f"+nines(30)+"."+nines(30)+"e-999")
	checkTokens(t, "1e999", "f1e999")
}

// All short sources of what numbers are made of.
func TestAllShortNumbers(t *testing.T) {
	for _, source := range textsOver("19.e+-", 6) {
		checkScan(t, source)
	}
	for _, source := range textsOver("0.eE+ ax_", 5) {
		checkScan(t, source)
	}
}

func TestTexts(t *testing.T) {
	every := strings.ReplaceAll(allBytes()[32:127], `"`, "")
	for _, text := range []string{"", " ", "a", "let", "1", "'", "\\", "//", "  a  b  ", "==", every, every[:47], strings.Repeat("x", 598)} {
		checkTokens(t, `"`+text+`"`, `t"`+text+`"`)
		tokens := checkScan(t, `"`+text+`"`)
		if want := (impl.Token{Kind: impl.TokenText, Text: text}); len(tokens) != 1 || tokens[0] != want {
			t.Errorf("%q is %+v, want %+v", text, tokens, want)
		}
		if len(text) < 200 {
			checkTokens(t, `;"`+text+`""`+text+`";`, "m;", `t"`+text+`"`, `t"`+text+`"`, "m;")
		}
	}
	// There is no other way to write a byte in a text.
	checkFault(t, `"\""`, 3)
	checkTokens(t, `"\"`, `t"\"`)
	checkTokens(t, `"\n"`, `t"\n"`)
}

func TestTextsWithNoEnd(t *testing.T) {
	for _, c := range []struct {
		source string
		want   int
	}{
		{`"`, 0}, {`"a`, 0}, {`" `, 0}, {`"""`, 2}, {`"a"b"`, 4}, {`; "a b; `, 2}, {`let x = "`, 8}, {`""""" `, 4}, {"\"a\nb\"", 0}, {"\"\n\"", 0}, {"x\"a\tb\"", 1}, {"\"\t\"", 0}, {"\"a\n", 0}, {"\"a\n & \"", 0},
		{`"` + strings.Repeat("x", 599), 0}, {"\"\x7f\"", 0}, {"\"\x1f\"", 0}, {"\"a\x00\"", 0}, {"\"é\"", 0}, {"\"\xff\"", 0}, {"\"\x80\"", 0}, {"\"\xef\xbf\xbd\"", 0}, {"1 \"日本\"", 2},
	} {
		checkFault(t, c.source, c.want)
	}
}

func TestBytesOfTexts(t *testing.T) {
	for b := range 256 {
		piece := string([]byte{byte(b)})
		for _, inner := range []string{piece, "a" + piece, piece + "a", "a" + piece + "a"} {
			source := ` "` + inner + `"`
			if 32 <= b && b <= 126 && b != '"' {
				checkTokens(t, source, `t"`+inner+`"`)
			} else if b != '"' {
				checkFault(t, source, 1)
			}
		}
	}
}

func TestMarksAlone(t *testing.T) {
	for _, mark := range strings.Fields(marksOfLanguage) {
		checkTokens(t, mark, "m"+mark)
		checkTokens(t, " "+mark+"\n", "m"+mark)
		tokens := checkScan(t, "\t"+mark)
		if want := (impl.Token{Kind: impl.TokenMark, Text: mark, At: 1}); len(tokens) != 1 || tokens[0] != want {
			t.Errorf("%q is %+v, want %+v", mark, tokens, want)
		}
	}
}

func TestLongestMarks(t *testing.T) {
	checkTokens(t, "===", "m==", "m=")
	checkTokens(t, "====", "m==", "m==")
	checkTokens(t, "= ==", "m=", "m==")
	checkTokens(t, "= =", "m=", "m=")
	checkTokens(t, "<==", "m<=", "m=")
	checkTokens(t, ">==", "m>=", "m=")
	checkTokens(t, "!==", "m!=", "m=")
	checkTokens(t, "<===", "m<=", "m==")
	checkTokens(t, "=<", "m=", "m<")
	checkTokens(t, "=>", "m=", "m>")
	checkTokens(t, "=!", "m=", "m!")
	checkTokens(t, "=<=", "m=", "m<=")
	checkTokens(t, "==<=", "m==", "m<=")
	checkTokens(t, "=!=", "m=", "m!=")
	checkTokens(t, "<<", "m<", "m<")
	checkTokens(t, "<>", "m<", "m>")
	checkTokens(t, "><", "m>", "m<")
	checkTokens(t, "!!", "m!", "m!")
	checkTokens(t, "!!=", "m!", "m!=")
	checkTokens(t, "< =", "m<", "m=")
	checkTokens(t, "! =", "m!", "m=")
	checkTokens(t, "+=", "m+", "m=")
	checkTokens(t, "--", "m-", "m-")
	checkTokens(t, "//", "m/", "m/")
	checkTokens(t, "/*", "m/", "m*")
	checkTokens(t, "&&&&", "m&&", "m&&")
	checkTokens(t, "||||", "m||", "m||")
	checkTokens(t, "&&||", "m&&", "m||")
	checkTokens(t, "||", "m||")
	checkFault(t, "&&&", 2)
	checkFault(t, "|||", 2)
	checkFault(t, "& &", 0)
	checkFault(t, "| |", 0)
	checkFault(t, "|&&", 0)
	checkFault(t, "&|", 0)
	checkFault(t, "&=", 0)
	checkFault(t, "==&", 2)
}

// All short sources of marks, of halves of marks, and of what may stand among them.
func TestAllShortMarks(t *testing.T) {
	for _, source := range textsOver("=<>!&| ", 6) {
		checkScan(t, source)
	}
	for _, source := range textsOver("+-*/%(){},;=!<>&|", 4) {
		checkScan(t, source)
	}
	for _, source := range textsOver("a1\"= \n.&", 5) {
		checkScan(t, source)
	}
}

func TestAllPairsOfBytes(t *testing.T) {
	for a := range 256 {
		checkScan(t, string([]byte{byte(a)}))
		for b := range 256 {
			checkScan(t, string([]byte{byte(a), byte(b)}))
			checkScan(t, string([]byte{'a', ' ', byte(a), byte(b), '"'}))
		}
	}
}

func TestBytesThatBeginNothing(t *testing.T) {
	const begins = blanks + "abcdefghijklmnopqrstuvwxyzABCDEFGHIJKLMNOPQRSTUVWXYZ_0123456789+-*/%<>=!(){},;"
	count := 0
	for b := range 256 {
		piece := string([]byte{byte(b)})
		if strings.Contains(begins, piece) {
			continue
		}
		count++
		checkFault(t, piece, 0)
		checkFault(t, " "+piece, 1)
		checkFault(t, "a"+piece, 1)
		checkFault(t, "1"+piece, 1)
		checkFault(t, ";"+piece+"a", 1)
		checkFault(t, `"a"`+piece+" ", 3)
	}
	if count != 256-len(begins) {
		t.Errorf("%d bytes begin nothing, want %d", count, 256-len(begins))
	}
}

// A fault within a rune of several bytes is told at the rune's first byte.
func TestRunesOfSeveralBytes(t *testing.T) {
	for _, r := range []string{"é", "ß", "日", "Ω", "\u00a0", "\u2003", "\u0660", "\uff11", "\uff21", "\uff1b", "\U0001f600", "\ufffd", "\ufeff", "\u2028", "\u00b2"} {
		checkFault(t, r, 0)
		checkFault(t, " "+r, 1)
		checkFault(t, "ab"+r+"cd", 2)
		checkFault(t, "12"+r, 2)
		checkFault(t, "1."+r, 1)
		checkFault(t, "1e"+r, 2)
		checkFault(t, r+r, 0)
		checkFault(t, "; \"a"+r+"\"", 2)
		checkFault(t, "=="+r+"=", 2)
	}
}

// The place of the first fault counts, whatever stands behind it.
func TestFirstOfSeveralFaults(t *testing.T) {
	faults := []string{"&", "|", ".", "#", "@", "\x00", "\xff", "é", "abcdefghijklm", nines(31), "1e1000", "\"\n\"", "'"}
	for _, first := range faults {
		for _, second := range faults {
			checkFault(t, "let a = 1 ; "+first+" ; "+second+" ;", 12)
			checkFault(t, first+" "+second, 0)
			checkFault(t, "(("+first+")) "+second+" \"", 2)
		}
	}
	checkFault(t, "\"a & b", 0)
	checkFault(t, "a & \"b", 2)
	checkTokens(t, `"& | . #" ;`, `t"& | . #"`, "m;")
}

func TestMostTokens(t *testing.T) {
	for _, piece := range []string{";", "a ", "1 ", "==", `""`, "1\t", "(\n", "if "} {
		full := strings.Repeat(piece, 200)
		if tokens := checkScan(t, full); len(tokens) != 200 {
			t.Errorf("%q 200 times has %d tokens", piece, len(tokens))
		}
		if len(full) > 590 {
			continue
		}
		checkFault(t, full+piece, len(full))
		checkFault(t, full+"\n\t "+piece, len(full)+3)
		checkFault(t, full+piece+"&", len(full))
		checkFault(t, full+"&", len(full))
		checkFault(t, full+" \"", len(full)+1)
		checkFault(t, full+" \"\"", len(full)+1)
		if tokens := checkScan(t, full+" \n\t"); len(tokens) != 200 {
			t.Errorf("%q 200 times and blanks has %d tokens", piece, len(tokens))
		}
	}
	checkFault(t, strings.Repeat(";", 600), 200)
	checkFault(t, strings.Repeat("a ", 300), 400)
	// What stands ahead of the last token that there is room for counts first.
	checkFault(t, strings.Repeat(";", 199)+"&"+strings.Repeat(";", 10), 199)
	checkFault(t, strings.Repeat(";", 100)+"&"+strings.Repeat(";", 200), 100)
}

func TestLongestSource(t *testing.T) {
	for _, source := range []string{
		strings.Repeat(" ", 600), strings.Repeat(" ", 599) + ";", ";" + strings.Repeat("\n", 599), `"` + strings.Repeat("x", 598) + `"`, strings.Repeat("abcdefghijk ", 50), strings.Repeat("abc", 4) + strings.Repeat("\t", 587) + "1",
	} {
		if len(source) != 600 {
			t.Fatalf("%q has %d bytes", source, len(source))
		}
		if _, fault := impl.Scan(source); fault != -1 {
			t.Errorf("%q has a fault at %d", source, fault)
		}
		checkScan(t, source)
		for _, more := range []string{" ", ";", "&", "\"", "\xff", "a"} {
			checkFault(t, source+more, 600)
			checkFault(t, more+source, 600)
		}
	}
	checkFault(t, strings.Repeat(" ", 599)+"&", 599)
	checkFault(t, strings.Repeat(" ", 599)+"\"", 599)
	// Of what is too long nothing else is looked at.
	for _, size := range []int{601, 602, 1200, 100000} {
		for _, piece := range []string{" ", ";", "&", "\"", "a", "1", "\x00", "\xff", "é"} {
			checkFault(t, strings.Repeat(piece, size)[:size], 600)
		}
	}
}

// sourcesBySteps: sources of pieces that are chosen by steps, with and without blanks between them.
func sourcesBySteps(count int) []string {
	pieces := slices.Concat(strings.Fields(wordsOfLanguage), strings.Fields(marksOfLanguage), strings.Fields(marksOfLanguage), []string{
		"a", "b1", "_x", "abcdefghijkl", "e", "e1", "E", "0", "1", "12.5", "3e4", "5.5e-6", "7e+8", "1e999", nines(30), `""`, `"a b"`, `"let"`, " ", "\n", "\t", " \n", "", " ", " ", "x", "y",
	})
	faults := []string{"&", "|", ".", "abcdefghijklm", "1e1000", "\"", "é", "\xff", "\x00", "#"}
	state := uint64(88172645463325252)
	next := func(below int) int {
		state ^= state << 13
		state ^= state >> 7
		state ^= state << 17
		return int(state % uint64(below))
	}
	var out []string
	for range count {
		var source strings.Builder
		blanksToo, faultsToo := next(2) == 0, next(3) == 0
		for size := next(260); size > 0 && source.Len() < 610; size-- {
			source.WriteString(pieces[next(len(pieces))])
			if blanksToo {
				source.WriteString(blanks[next(3):][:1])
			}
			if faultsToo && next(60) == 0 {
				source.WriteString(faults[next(len(faults))])
			}
		}
		out = append(out, source.String())
	}
	return out
}

func TestScanOfManySources(t *testing.T) {
	clean := 0
	for _, source := range sourcesBySteps(6000) {
		tokens := checkScan(t, source)
		if len(tokens) == 0 {
			continue
		}
		clean++
		for seed := range 4 {
			other := otherBlanks(tokens, seed)
			if len(other) > impl.MaxSource {
				continue
			}
			if got := checkScan(t, other); !slices.Equal(withoutPlaces(got), withoutPlaces(tokens)) {
				t.Fatalf("%q and %q are not the same", source, other)
			}
		}
	}
	if clean < 1000 {
		t.Errorf("only %d sources have tokens", clean)
	}
}

// Tokens that are told again with a blank between are themselves.
func TestEachTokenIsItself(t *testing.T) {
	for _, source := range programs() {
		for _, token := range checkScan(t, source) {
			got := checkScan(t, standing(token))
			want := token
			want.At = 0
			if len(got) != 1 || got[0] != want {
				t.Errorf("%q alone is %+v, want %+v", standing(token), got, want)
			}
		}
	}
}

func TestTokensAreNewMemory(t *testing.T) {
	source := strings.Clone(programs()[2] + `"a text"`)
	first := checkScan(t, source)
	for _, token := range first {
		if within(token.Text, source) {
			t.Errorf("%+v lies in the source", token)
		}
	}
	want := slices.Clone(first)
	second, _ := impl.Scan(source)
	for i := range second {
		second[i] = impl.Token{Kind: 9, Text: "spoiled"}
	}
	if third, _ := impl.Scan(source); !slices.Equal(first, want) || !slices.Equal(third, want) {
		t.Error("what is written into an answer is seen in another one")
	}
}
