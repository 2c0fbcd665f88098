package tests

import (
	"math"
	"regexp"
	"slices"
	"strconv"
	"strings"
	"testing"

	"loop.example/smallmachines/impl"
)

// term is an expression, written out anew here: a number or a variable as its text, or two terms and a sign.
type term struct {
	atom, sign  string
	left, right *term
}

// piece is a statement, written out anew here: its word is if, while, or the variable that is put to the term.
type piece struct {
	word string
	test *term
	body []*piece
}

// ledger is the variables, and the fuel that was spent on them.
type ledger struct {
	vars  [4]uint8
	spent int
}

func someTerm(g *lcg, depth int) *term {
	if depth == 0 || g.below(3) == 0 {
		atoms := []string{"a", "b", "c", "d", "a", "b", "0", "1", "2", "255", strconv.Itoa(g.below(256))}
		return &term{atom: atoms[g.below(len(atoms))]}
	}
	return &term{sign: []string{"+", "-", "*", "<"}[g.below(4)], left: someTerm(g, depth-1), right: someTerm(g, g.below(depth))}
}

// somePieces returns statements, loops that count down among them, in which some end.
func somePieces(g *lcg, depth int) []*piece {
	var list []*piece
	for range g.below(4) {
		name := []string{"a", "b", "c", "d"}[g.below(4)]
		p := &piece{word: name, test: someTerm(g, g.below(5))}
		if depth > 0 && g.below(2) == 0 {
			p.word = []string{"if", "while"}[g.below(2)]
			p.body = somePieces(g, depth-1)
			if p.word == "while" && g.below(3) > 0 {
				less := &term{sign: "-", left: &term{atom: name}, right: &term{atom: "1"}}
				p.test = &term{atom: name}
				p.body = append(p.body, &piece{word: name, test: less})
			}
		}
		list = append(list, p)
	}
	return list
}

func inBrackets(words []string) []string {
	return append(append([]string{"("}, words...), ")")
}

// words returns the words of a term, with brackets that are not needed if g is there.
func (x *term) words(g *lcg) []string {
	words := []string{x.atom}
	if x.sign != "" {
		right := x.right.words(g)
		if x.right.sign != "" {
			right = inBrackets(right)
		}
		words = append(append(x.left.words(g), x.sign), right...)
	}
	for g != nil && g.below(7) == 0 {
		words = inBrackets(words)
	}
	return words
}

func wordsOfPieces(list []*piece, g *lcg) []string {
	var words []string
	for _, p := range list {
		words = append(words, p.word)
		if p.word != "if" && p.word != "while" {
			words = append(append(append(words, "="), p.test.words(g)...), ";")
			continue
		}
		words = append(append(words, p.test.words(g)...), "{")
		words = append(append(words, wordsOfPieces(p.body, g)...), "}")
	}
	return words
}

// closeWords are texts of which two that are side by side would be one word.
var closeWords = regexp.MustCompile(`^([0-9][0-9]|[a-z][a-z])$`)

// textOfWords returns a text of words, with spaces and newlines where they are needed, and elsewhere now and then.
func textOfWords(words []string, g *lcg) string {
	text := ""
	for _, word := range words {
		gap := []string{"", "", "", "", "", " ", "\n", " \n "}[g.below(8)]
		if text != "" && gap == "" && closeWords.MatchString(text[len(text)-1:]+word[:1]) {
			gap = " "
		}
		text += gap + word
	}
	return text
}

// shownBy returns the text that words have when they are shown.
func shownBy(words []string) string {
	return strings.NewReplacer(" ;", ";", " )", ")", "( ", "(").Replace(strings.Join(words, " "))
}

// lines returns the texts of the instructions of a term that is put to a register.
func (x *term) lines(register int) []string {
	r := "r" + strconv.Itoa(register)
	switch {
	case x.sign != "":
		op := map[string]string{"+": "add", "-": "sub", "*": "mul", "<": "lt"}[x.sign]
		lines := append(x.left.lines(register), x.right.lines(register+1)...)
		return append(lines, op+" "+r+" "+r+" r"+strconv.Itoa(register+1))
	case x.atom >= "a":
		return []string{"set " + r + " 0", "ld " + r + " " + r + " " + strconv.Itoa(int(x.atom[0]-'a'))}
	}
	return []string{"set " + r + " " + x.atom}
}

// linesOfPieces returns the texts of the instructions of statements of which the first one has the index at.
func linesOfPieces(list []*piece, at int) []string {
	var all []string
	for _, p := range list {
		start := at + len(all)
		lines := p.test.lines(0)
		if p.word != "if" && p.word != "while" {
			all = append(append(all, lines...), "set r3 0", "st r0 r3 "+strconv.Itoa(int(p.word[0]-'a')))
			continue
		}
		body := linesOfPieces(p.body, start+len(lines)+1)
		if p.word == "while" {
			body = append(body, "jmp "+strconv.Itoa(start))
		}
		lines = append(lines, "bz r0 "+strconv.Itoa(start+len(lines)+1+len(body)))
		all = append(append(all, lines...), body...)
	}
	return all
}

// tooDeep reports whether a term of statements is put to more registers than three.
func tooDeep(list []*piece) bool {
	return slices.ContainsFunc(list, func(p *piece) bool {
		return strings.Contains(strings.Join(p.test.lines(0), "\n"), " r3") || tooDeep(p.body)
	})
}

func (x *term) value(vars [4]uint8) uint8 {
	if x.sign == "" && x.atom >= "a" {
		return vars[x.atom[0]-'a']
	}
	if x.sign == "" {
		n, _ := strconv.Atoi(x.atom)
		return uint8(n)
	}
	left, right := x.left.value(vars), x.right.value(vars)
	return map[string]uint8{"+": left + right, "-": left - right, "*": left * right, "<": map[bool]uint8{true: 1}[left < right]}[x.sign]
}

// do does statements, as long as no more than all fuel is spent.
func (l *ledger) do(list []*piece) {
	for _, p := range list {
		if l.spent > 300 {
			return
		}
		l.spent++
		switch p.word {
		case "if":
			if p.test.value(l.vars) != 0 {
				l.do(p.body)
			}
		case "while":
			for l.spent <= 300 && p.test.value(l.vars) != 0 {
				l.do(p.body)
				l.spent++
			}
		default:
			l.vars[p.word[0]-'a'] = p.test.value(l.vars)
		}
	}
}

// folded returns a term with numbers in place of what has no variable in it.
func (x *term) folded() *term {
	if !strings.ContainsAny(strings.Join(x.words(nil), ""), "abcd") {
		return &term{atom: strconv.Itoa(int(x.value([4]uint8{})))}
	}
	if x.sign == "" {
		return x
	}
	return &term{sign: x.sign, left: x.left.folded(), right: x.right.folded()}
}

func foldedPieces(list []*piece) []*piece {
	var all []*piece
	for _, p := range list {
		test, body := p.test.folded(), foldedPieces(p.body)
		known := test.sign == "" && test.atom < "a"
		switch {
		case known && test.atom == "0" && (p.word == "if" || p.word == "while"):
		case known && p.word == "if":
			all = append(all, body...)
		default:
			all = append(all, &piece{p.word, test, body})
		}
	}
	return all
}

// sample is a valid source, and the statements that it was made of.
type sample struct {
	text   string
	pieces []*piece
}

func samples() []sample {
	g := lcg(3)
	list := []sample{{"", nil}}
	for len(list) < 1500 {
		pieces := somePieces(&g, 3)
		text := textOfWords(wordsOfPieces(pieces, &g), &g)
		if len(text) <= 200 && len(linesOfPieces(pieces, 0)) <= 40 && !tooDeep(pieces) {
			list = append(list, sample{text, pieces})
		}
	}
	return list
}

// someVars returns variables that are often small, so that loops end.
func someVars(g *lcg) []int {
	vars := make([]int, 4)
	for i := range vars {
		vars[i] = []int{0, 1, 2, 3, g.below(12), g.below(256)}[g.below(6)]
	}
	return vars
}

// ledgerOf returns what statements do to the variables.
func ledgerOf(list []*piece, vars []int) ledger {
	l := ledger{vars: [4]uint8{uint8(vars[0]), uint8(vars[1]), uint8(vars[2]), uint8(vars[3])}}
	l.do(list)
	return l
}

func (l ledger) list() []int {
	return []int{int(l.vars[0]), int(l.vars[1]), int(l.vars[2]), int(l.vars[3])}
}

func checkSource(t *testing.T, s string) {
	t.Helper()
	if want := isSourceBy(s); impl.ValidSource(s) != want {
		t.Fatalf("ValidSource(%q) = %v", s, !want)
	}
}

// checkNoSource fails if a function has more than nothing for a text that is no source.
func checkNoSource(t *testing.T, s string) {
	t.Helper()
	vars := []int{1, 2, 3, 4}
	if impl.ValidSource(s) || impl.ShowSource(s) != "" || impl.FoldSource(s) != "" {
		t.Errorf("ValidSource(%q) = %v, %q, %q", s, impl.ValidSource(s), impl.ShowSource(s), impl.FoldSource(s))
	}
	if code, ok := impl.CompileSource(s); ok || len(code) != 0 {
		t.Errorf("CompileSource(%q) = %v, %v", s, code, ok)
	}
	checkNoWalk(t, s, vars, 300)
	if n, ok := impl.FuelFor(s, vars); ok || n != 0 {
		t.Errorf("FuelFor(%q) = %d, %v", s, n, ok)
	}
}

func checkNoWalk(t *testing.T, s string, vars []int, fuel int) {
	t.Helper()
	if out, ok := impl.RunSource(s, vars, fuel); ok || len(out) != 0 {
		t.Errorf("RunSource(%q, %v, %d) = %v, %v", s, vars, fuel, out, ok)
	}
}

func checkWalk(t *testing.T, s string, vars []int, fuel int, want []int) {
	t.Helper()
	if out, ok := impl.RunSource(s, vars, fuel); !ok || !slices.Equal(out, want) {
		t.Errorf("RunSource(%q, %v, %d) = %v, %v, not %v", s, vars, fuel, out, ok, want)
	}
}

func checkShown(t *testing.T, s, shown, folded string) {
	t.Helper()
	if !impl.ValidSource(s) || impl.ShowSource(s) != shown || impl.FoldSource(s) != folded {
		t.Errorf("%q is %v, ShowSource %q, FoldSource %q", s, impl.ValidSource(s), impl.ShowSource(s), impl.FoldSource(s))
	}
}

func checkCompiled(t *testing.T, s string, lines ...string) {
	t.Helper()
	code, ok := impl.CompileSource(s)
	var texts []string
	for _, c := range code {
		texts = append(texts, impl.ShowInstr(c))
	}
	if !ok || !impl.ValidCode(code) || !slices.Equal(texts, lines) {
		t.Errorf("CompileSource(%q) = %v, %q, not %q", s, ok, texts, lines)
	}
}

// bytesAsRunes returns a text with a rune for each byte, so that a pattern meets each byte alone.
func bytesAsRunes(s string) string {
	runes := make([]rune, len(s))
	for i := range len(s) {
		runes[i] = rune(s[i])
	}
	return string(runes)
}

var (
	wordPattern   = regexp.MustCompile(`[0-9]+|[a-z]+|[^0-9a-z \n]`)
	numberPattern = regexp.MustCompile(`^(0|[1-9][0-9]?|1[0-9][0-9]|2[0-4][0-9]|25[0-5])$`)
	bracketed     = regexp.MustCompile(`\([1-9](s[1-9])*\)`)
	assigned      = regexp.MustCompile(`v=[1-9v](s[1-9v])*;`)
	guardedWords  = regexp.MustCompile(`k[1-9v](s[1-9v])*\{S*\}`)
)

// wordsBy returns the words of a text, found by a pattern.
func wordsBy(s string) []string {
	words := wordPattern.FindAllString(bytesAsRunes(s), -1)
	for i, word := range words {
		if r := []rune(word); len(r) == 1 {
			words[i] = string([]byte{byte(r[0])})
		}
	}
	return words
}

// depthBy returns how many registers are taken by digits, which tell those of atoms, v for variables, and signs.
func depthBy(text string) int {
	depth := 0
	for i, atom := range strings.Split(strings.ReplaceAll(strings.Trim(text, "()"), "v", "1"), "s") {
		n, _ := strconv.Atoi(atom)
		if i > 0 {
			n++
		}
		depth = max(depth, n)
	}
	return min(depth, 9)
}

// untilSame replaces all that the pattern finds, again and again.
func untilSame(pattern *regexp.Regexp, text string, replace func(string) string) string {
	for {
		next := pattern.ReplaceAllStringFunc(text, replace)
		if next == text {
			return text
		}
		text = next
	}
}

// isSourceBy reports whether a text is a source, by letters for its words that are put together by patterns.
func isSourceBy(s string) bool {
	text, size := "", 0
	for _, word := range wordsBy(s) {
		switch {
		case numberPattern.MatchString(word):
			text, size = text+"1", size+1
		case len(word) == 1 && strings.Contains("abcd", word):
			text, size = text+"v", size+2
		case strings.Contains("+-*<", word):
			text, size = text+"s", size+1
		case word == "if":
			text, size = text+"k", size+1
		case word == "while":
			text, size = text+"k", size+2
		case strings.Contains("=;{}()", word):
			text += word
		default:
			return false
		}
	}
	text = strings.ReplaceAll(text, "(v)", "(1)")
	inside := strings.NewReplacer("(v", "(1", "sv", "s1")
	text = untilSame(bracketed, inside.Replace(text), func(e string) string { return strconv.Itoa(depthBy(e)) })
	whole := func(e string) string {
		if depthBy(strings.Split(strings.Trim(e, "vk=;"), "{")[0]) > 3 {
			return "?"
		}
		return "S"
	}
	text = assigned.ReplaceAllStringFunc(text, whole)
	text = untilSame(guardedWords, text, whole)
	return strings.Trim(text, "S") == "" && size <= 40 && len(s) <= 200
}

// All functions give for sources of all kinds what is worked out here from the statements that they were made of.
func TestSourcesOfAllKinds(t *testing.T) {
	g := lcg(31)
	there := 0
	for _, s := range samples() {
		checkSource(t, s.text)
		checkShown(t, s.text, shownBy(wordsOfPieces(s.pieces, nil)), shownBy(wordsOfPieces(foldedPieces(s.pieces), nil)))
		checkCompiled(t, s.text, linesOfPieces(s.pieces, 0)...)
		for range 4 {
			vars := someVars(&g)
			l := ledgerOf(s.pieces, vars)
			if l.spent > 300 {
				checkNoWalk(t, s.text, vars, 300)
				continue
			}
			there++
			checkWalk(t, s.text, vars, 300, l.list())
			if n, ok := impl.FuelFor(s.text, vars); !ok || n != l.spent {
				t.Fatalf("FuelFor(%q, %v) = %d, %v, not %d", s.text, vars, n, ok, l.spent)
			}
		}
	}
	if there < 3000 || there > 5900 {
		t.Errorf("%d of 6000 runs are there", there)
	}
}

// A row of words is a source just if patterns put it together, for all short rows.
func TestRowsOfWords(t *testing.T) {
	words := []string{"a", "1", "-", "(", ")", "=", ";", "while", "{", "}"}
	rows := []string{""}
	for range 5 {
		var longer []string
		for _, row := range rows {
			for _, word := range words {
				longer = append(longer, row+word+" ")
				checkSource(t, row+word+" ")
			}
		}
		rows = longer
	}
}

// A source with one byte more, less or another one is a source just if patterns put it together.
func TestNearlySources(t *testing.T) {
	g := lcg(32)
	signs := "abcdeifwhle0123456789+-*<>=;(){} \n\t\r\x00A_,.\x80\xff"
	valid := 0
	for _, s := range samples()[:700] {
		for range 40 {
			at := g.below(len(s.text) + 1)
			sign := string(signs[g.below(len(signs))])
			near := []string{s.text[:at] + sign + s.text[at:], s.text[:at]}
			if at < len(s.text) {
				near = append(near, s.text[:at]+s.text[at+1:], s.text[:at]+sign+s.text[at+1:])
			}
			for _, text := range near {
				checkSource(t, text)
				if impl.ValidSource(text) {
					valid++
				}
			}
		}
	}
	if valid < 5000 {
		t.Errorf("%d texts are sources", valid)
	}
}

func TestNoSources(t *testing.T) {
	for _, s := range []string{
		";", "}", "{", "{ }", "a", "a =", "a = 1", "a = ;", "= 1;", "a 1;", "a == 1;", "a = 1;;", "a = 1; ;", "1 = a;", "1;", "a;", "a = b = 1;", "(a) = 1;", "(a = 1;)",
		"e = 1;", "a = e;", "z = 1;", "ab = 1;", "a = ab;", "a b = 1;", "A = 1;", "a = if;", "if = 1;", "aa = 1;", "abcd = 1;", "bc = 1;",
		"a = 256;", "a = 007;", "a = 00;", "a = 01;", "a = 1 2;", "a = -1;", "a = +1;", "a = 1 -;", "a = - 1;", "a = 1 + + 1;", "a = 1 > 2;", "a = 1 / 2;", "a = 1 <= 2;", "a = 1.0;", "a = 0x1;", "a = 1a;", "a = a1;",
		"a = 1000;", "a = 18446744073709551617;", "a = 99999999999999999999999999;",
		"a = ();", "a = (1;", "a = 1);", "a = (1));", "a = ((1);", "a = 1 + (2;", "a = (1)(2);", "a = 1 (2);", "a = (1) 2;", "a = [1];", "a = (+);",
		"if", "if a", "if { }", "if a {", "if a }", "if a { b = 1;", "if a { b = 1 }", "if a { } }", "if a b = 1;", "if a; { }", "if (a { })", "if () { }", "if a { } else { }", "If a { }", "ifa { }", "i f a { }", "while { }", "while 1 {", "while1", "whilea{}", "wh ile 1 { }", "loop 1 { }",
		"a = 1 + (1 + (1 + 1));", "if a < (b < (c < d)) { }", "while 1 { a = b * (c * (d * 2)); }", "a = 1;\tb = 2;", "a = 1;\r\n", "a = 1;\x00", "a = 1;\xa0", "a = \xff;", "\ufeffa = 1;", "a = 1; // one",
	} {
		checkNoSource(t, s)
		if isSourceBy(s) {
			t.Errorf("patterns take %q", s)
		}
	}
}

func TestSourcesWithoutStatements(t *testing.T) {
	for _, s := range []string{"", " ", "\n", " \n \n", strings.Repeat(" ", 200)} {
		checkShown(t, s, "", "")
		checkCompiled(t, s)
		checkWalk(t, s, []int{0, 255, 7, 1}, 0, []int{0, 255, 7, 1})
		if n, ok := impl.FuelFor(s, []int{0, 255, 7, 1}); !ok || n != 0 {
			t.Errorf("FuelFor(%q) = %d, %v", s, n, ok)
		}
		if len(impl.TokensOf(s)) != 0 {
			t.Errorf("TokensOf(%q) = %q", s, impl.TokensOf(s))
		}
	}
	checkShown(t, "if a{}", "if a { }", "if a { }")
	checkShown(t, "while a{}if b{while 0{}}", "while a { } if b { while 0 { } }", "while a { } if b { }")
	checkCompiled(t, "while 1 { }", "set r0 1", "bz r0 3", "jmp 0")
	checkCompiled(t, "if d { } if 1 { }", "set r0 0", "ld r0 r0 3", "bz r0 3", "set r0 1", "bz r0 5")
	checkNoSource(t, strings.Repeat("\n", 201))
}

func TestBracketsInBrackets(t *testing.T) {
	checkShown(t, "a=(b);", "a = b;", "a = b;")
	checkShown(t, "a = (((7)));", "a = 7;", "a = 7;")
	checkShown(t, "a=1+((b));", "a = 1 + b;", "a = 1 + b;")
	checkShown(t, "a=((1+b))*(((c-2)));", "a = 1 + b * (c - 2);", "a = 1 + b * (c - 2);")
	checkShown(t, "a=(b+(c+d))+1;", "a = b + (c + d) + 1;", "a = b + (c + d) + 1;")
	checkShown(t, "a = d-((2+(3)*4)-b);", "a = d - (2 + 3 * 4 - b);", "a = d - (20 - b);")
	checkShown(t, "if((a)){while((1)){}}", "if a { while 1 { } }", "if a { while 1 { } }")
	checkShown(t, "a = b+(1-2)+3;", "a = b + (1 - 2) + 3;", "a = b + 255 + 3;")
	checkCompiled(t, "a = (1 + 2) * ((3));", "set r0 1", "set r1 2", "add r0 r0 r1", "set r1 3", "mul r0 r0 r1", "set r3 0", "st r0 r3 0")
	checkCompiled(t, "d = 1 - (2 < (b));", "set r0 1", "set r1 2", "set r2 0", "ld r2 r2 1", "lt r1 r1 r2", "sub r0 r0 r1", "set r3 0", "st r0 r3 3")
	// Brackets take no register by themselves.
	for n := range 97 {
		s := "a=" + strings.Repeat("(", n) + "b" + strings.Repeat(")", n) + ";"
		checkShown(t, s, "a = b;", "a = b;")
		checkWalk(t, s, []int{1, 2, 3, 4}, 1, []int{2, 2, 3, 4})
		checkNoSource(t, strings.Replace(s, ";", ");", 1))
		checkNoSource(t, strings.Replace(s, "=", "=(", 1))
	}
	checkShown(t, "a = 1 + ((((1 + ((1))))));", "a = 1 + (1 + 1);", "a = 3;")
	checkNoSource(t, "a = 1 + (((((1 + ((1 + (1))))))));")
	deep := strings.Repeat("1+(", 45) + "1" + strings.Repeat(")", 45)
	checkNoSource(t, "a="+deep+";")
	if !impl.ValidSource("a="+strings.Repeat("(", 19)+"1"+strings.Repeat("+1)", 18)+");") || impl.ValidSource("a="+strings.Repeat("(", 20)+"1"+strings.Repeat("+1)", 19)+");") {
		t.Error("ValidSource of brackets ahead of signs")
	}
}

func TestLimitsOfSources(t *testing.T) {
	if impl.Vars != 4 || impl.MaxDepth != 3 || impl.MaxSource != 200 {
		t.Errorf("limits: %d, %d, %d", impl.Vars, impl.MaxDepth, impl.MaxSource)
	}
	checkShown(t, strings.Repeat("\n", 98)+"a=1;"+strings.Repeat(" ", 98), "a = 1;", "a = 1;")
	checkNoSource(t, strings.Repeat("\n", 99)+"a=1;"+strings.Repeat(" ", 98))
	twelve := strings.Repeat("a=1;", 12)
	if code, ok := impl.CompileSource(twelve + "a=b;"); !ok || len(code) != 40 {
		t.Errorf("CompileSource has %d instructions", len(code))
	}
	if code, ok := impl.CompileSource(twelve + "if a{}if 255{}"); ok || len(code) != 0 {
		t.Errorf("CompileSource has %d instructions", len(code))
	}
	checkNoSource(t, twelve+"a=1+1;")
	checkNoSource(t, twelve+"a=1;if 1 { }")
	checkNoSource(t, "while 1{"+twelve+"b=2;}")
	checkShown(t, "a=255;b=0;", "a = 255; b = 0;", "a = 255; b = 0;")
	// What folding would make short enough is too long as it stands.
	checkNoSource(t, "if 0{"+twelve+"a=1;}")
	// A source that is shown may be longer than a source may be.
	many := strings.Repeat("if100{}", 20)
	shown := strings.TrimSpace(strings.Repeat("if 100 { } ", 20))
	checkShown(t, many, shown, "")
	checkNoSource(t, shown)
}

// P17: a source with a statement behind it is one, if its bytes and its instructions are not too many.
func TestSourcesAreJoined(t *testing.T) {
	g := lcg(17)
	list := samples()
	joined := 0
	for range 4000 {
		first, second := list[g.below(len(list))], list[g.below(len(list))]
		s := first.text + second.text
		pieces := append(slices.Clone(first.pieces), second.pieces...)
		lines := linesOfPieces(pieces, 0)
		if len(s) > 200 || len(lines) > 40 {
			checkNoSource(t, s)
			continue
		}
		joined++
		checkCompiled(t, s, lines...)
		vars := someVars(&g)
		half, ok := impl.RunSource(first.text, vars, 300)
		if !ok {
			checkNoWalk(t, s, vars, 300)
			continue
		}
		end, ok := impl.RunSource(second.text, half, 300)
		spent, _ := impl.FuelFor(first.text, vars)
		more, _ := impl.FuelFor(second.text, half)
		if !ok || spent+more > 300 {
			checkNoWalk(t, s, vars, 300)
			continue
		}
		checkWalk(t, s, vars, spent+more, end)
	}
	if joined < 2000 {
		t.Errorf("%d sources are joined", joined)
	}
}

// P18: a source that is shown is its own, and has the program of the source.
func TestShownSources(t *testing.T) {
	for _, s := range samples() {
		shown := impl.ShowSource(s.text)
		if len(shown) > 200 {
			checkNoSource(t, shown)
			continue
		}
		code, _ := impl.CompileSource(s.text)
		again, ok := impl.CompileSource(shown)
		if impl.ShowSource(shown) != shown || !ok || !slices.Equal(code, again) {
			t.Fatalf("ShowSource(%q) = %q, and of it %q", s.text, shown, impl.ShowSource(shown))
		}
	}
}

// P19 and P23: a source runs with the fuel that it needs and with more, and not with less.
func TestFuelIsJustEnough(t *testing.T) {
	g := lcg(19)
	for _, s := range samples()[:500] {
		vars := someVars(&g)
		need, ok := impl.FuelFor(s.text, vars)
		if !ok {
			need = 301
		}
		all, _ := impl.RunSource(s.text, vars, 300)
		for fuel := range 301 {
			if fuel < need {
				checkNoWalk(t, s.text, vars, fuel)
			} else {
				checkWalk(t, s.text, vars, fuel, all)
			}
		}
	}
	countDown := "while a { a = a - 1; }"
	for n := range 256 {
		vars := []int{n, 0, 0, 0}
		fuel, ok := impl.FuelFor(countDown, vars)
		if ok != (n <= 149) || ok && fuel != 1+2*n || !ok && fuel != 0 {
			t.Errorf("FuelFor %d = %d, %v", n, fuel, ok)
		}
	}
	if n, ok := impl.FuelFor("b = 1;"+countDown, []int{149, 0, 0, 0}); !ok || n != 300 {
		t.Errorf("FuelFor = %d, %v", n, ok)
	}
	if n, ok := impl.FuelFor("b = 1; b = 1;"+countDown, []int{149, 0, 0, 0}); ok || n != 0 {
		t.Errorf("FuelFor = %d, %v", n, ok)
	}
}

func TestLoopsWithoutEnd(t *testing.T) {
	for _, s := range []string{"while 1 { }", "while 255 { a = a + 1; }", "while b { b = b; }", "while 1 { while 1 { } }", "while 1 { while 0 { } }", "while 1 { if 0 { a = 1; } }", "if 1 { while 2 { b = b * 2; } }", "a = 1; while 1 < (a + 1) { }", "while 1 { while c { c = c - 1; } c = 3; }"} {
		if !impl.ValidSource(s) {
			t.Errorf("ValidSource(%q) = false", s)
		}
		vars := []int{0, 3, 2, 0}
		for _, fuel := range []int{0, 1, 2, 3, 150, 299, 300} {
			checkNoWalk(t, s, vars, fuel)
		}
		if n, ok := impl.FuelFor(s, vars); ok || n != 0 {
			t.Errorf("FuelFor(%q) = %d, %v", s, n, ok)
		}
		code, _ := impl.CompileSource(s)
		if _, _, done := impl.RunMachine(code, machineAt(0, [4]int{}, [8]int{0, 3, 2, 0}), 300); done {
			t.Errorf("RunMachine of %q is done", s)
		}
	}
	checkWalk(t, "while 0 { while 1 { } }", []int{1, 2, 3, 4}, 1, []int{1, 2, 3, 4})
	checkWalk(t, "if 0 { while 1 { } }", []int{1, 2, 3, 4}, 1, []int{1, 2, 3, 4})
}

// P20: the first cells behind the program are the variables behind the source.
func TestCompiledSourcesDoAsTheSource(t *testing.T) {
	g := lcg(20)
	done := 0
	for _, s := range samples() {
		code, _ := impl.CompileSource(s.text)
		for range 4 {
			vars := someVars(&g)
			m := machineAt(0, [4]int{9, 8, 7, 6}, [8]int{vars[0], vars[1], vars[2], vars[3], 5, 6, 7, 8})
			end, _, ended := impl.RunMachine(code, m, 300)
			if out, ok := impl.RunSource(s.text, vars, 300); ended && ok {
				done++
				if !slices.Equal(end.Mem, append(out, 5, 6, 7, 8)) {
					t.Fatalf("RunMachine of %q with %v leaves %v, not %v", s.text, vars, end.Mem, out)
				}
			}
		}
	}
	if done < 3000 {
		t.Errorf("%d runs are done", done)
	}
}

// P21: a source that is folded is its own, has no longer program, and does the same, with no more fuel.
func TestFoldedSourcesDoAsTheSource(t *testing.T) {
	g := lcg(21)
	for _, s := range samples() {
		folded := impl.FoldSource(s.text)
		if len(folded) > 200 {
			checkNoSource(t, folded)
			continue
		}
		code, _ := impl.CompileSource(s.text)
		short, ok := impl.CompileSource(folded)
		if impl.FoldSource(folded) != folded || !ok || len(short) > len(code) {
			t.Fatalf("FoldSource(%q) = %q, and of it %q", s.text, folded, impl.FoldSource(folded))
		}
		vars := someVars(&g)
		if out, ok := impl.RunSource(s.text, vars, 300); ok {
			need, _ := impl.FuelFor(s.text, vars)
			checkWalk(t, folded, vars, need, out)
		}
	}
	checkShown(t, "a = b + 1 + 2;", "a = b + 1 + 2;", "a = b + 1 + 2;")
	checkShown(t, "a = 200 + 100 + b; c = 2 - 3; d = 16 * 16;", "a = 200 + 100 + b; c = 2 - 3; d = 16 * 16;", "a = 44 + b; c = 255; d = 0;")
	checkShown(t, "a = 0 * b; if 0 * b { } if 1 < 1 { a = 1; }", "a = 0 * b; if 0 * b { } if 1 < 1 { a = 1; }", "a = 0 * b; if 0 * b { }")
	checkShown(t, "while 1 + 1 { if 2 { if 3 < 4 { a = 1; } } while 0 { } }", "while 1 + 1 { if 2 { if 3 < 4 { a = 1; } } while 0 { } }", "while 2 { a = 1; }")
	checkShown(t, "if 1 { }", "if 1 { }", "")
}

// P22: words are found as they stand in any text, and again with spaces between them.
func TestWordsOfTexts(t *testing.T) {
	g := lcg(22)
	signs := "ab z019+-;= \n\t\r\x00\x80\xc3\xa9\xffAZ`{/:@"
	var texts []string
	for size := range 201 {
		text := make([]byte, size)
		for i := range text {
			text[i] = signs[g.below(len(signs))]
		}
		any := make([]byte, size)
		for i := range any {
			any[i] = byte(g.below(256))
		}
		texts = append(texts, string(text), string(any), strings.Repeat("7", size), strings.Repeat("x", size), strings.Repeat("é", size/2))
	}
	for _, s := range texts {
		words := impl.TokensOf(s)
		if !slices.Equal(words, wordsBy(s)) {
			t.Fatalf("TokensOf(%q) = %q", s, words)
		}
		if total := len(strings.Join(words, "")); total > len(s) || slices.Contains(words, "") {
			t.Fatalf("TokensOf(%q) = %q, of %d bytes", s, words, total)
		}
		if spaced := strings.Join(words, " "); len(spaced) <= 200 && !slices.Equal(impl.TokensOf(spaced), words) {
			t.Fatalf("TokensOf(%q) = %q, not %q", spaced, impl.TokensOf(spaced), words)
		}
	}
	if words := impl.TokensOf("ab12<=A9\té"); !slices.Equal(words, []string{"ab", "12", "<", "=", "A", "9", "\t", "\xc3", "\xa9"}) {
		t.Errorf("TokensOf = %q", words)
	}
	for _, s := range []string{strings.Repeat("a", 201), strings.Repeat(" ", 201), strings.Repeat("+", 5000)} {
		if words := impl.TokensOf(s); len(words) != 0 {
			t.Errorf("TokensOf of %d bytes = %q", len(s), words)
		}
	}
}

// Variables that are none, and fuel that is none, run nothing.
func TestNoWalks(t *testing.T) {
	for _, s := range []string{"", "a = 1;", "while 0 { }"} {
		for _, vars := range [][]int{nil, {}, {1}, {1, 2, 3}, {1, 2, 3, 4, 5}, {256, 0, 0, 0}, {0, -1, 0, 0}, {0, 0, 512, 0}, {0, 0, 0, math.MaxInt}, {0, 0, 0, math.MinInt}} {
			checkNoWalk(t, s, vars, 300)
			if n, ok := impl.FuelFor(s, vars); ok || n != 0 {
				t.Errorf("FuelFor(%q, %v) = %d, %v", s, vars, n, ok)
			}
		}
		for _, fuel := range []int{-1, 301, math.MaxInt, math.MinInt} {
			checkNoWalk(t, s, []int{1, 2, 3, 4}, fuel)
		}
	}
	checkNoWalk(t, "a = 1;", []int{0, 0, 0, 0}, 0)
}

// Variables that are given stay, and what is returned is new each time.
func TestSourcesOfTheirOwn(t *testing.T) {
	vars := []int{1, 2, 3, 4, 99}
	for _, s := range []string{"", "a = 9; b = a + 1;"} {
		for range 2 {
			want := []int{1, 2, 3, 4}
			if s != "" {
				want = []int{9, 10, 3, 4}
			}
			checkWalk(t, s, vars[:4], 300, want)
			out, _ := impl.RunSource(s, vars[:4], 300)
			for i := range out[:cap(out)] {
				out[:cap(out)][i] = 77
			}
			code, _ := impl.CompileSource(s)
			for i := range code[:cap(code)] {
				code[:cap(code)][i].K = 77
			}
			words := impl.TokensOf(s)
			for i := range words[:cap(words)] {
				words[:cap(words)][i] = "x"
			}
		}
	}
	if !slices.Equal(vars, []int{1, 2, 3, 4, 99}) {
		t.Errorf("the variables that were given are now %v", vars)
	}
	checkCompiled(t, "a = 9;", "set r0 9", "set r3 0", "st r0 r3 0")
}
