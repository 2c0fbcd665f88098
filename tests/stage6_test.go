package tests

import (
	"math"
	"math/bits"
	"slices"
	"strconv"
	"strings"
	"testing"

	"loop.example/smallmachines/impl"
)

// ask is wide instructions and a set of kept numbers.
type ask struct {
	list []impl.Wide
	kept int
}

// answer is all that the functions of chapter 6 are to return for wide instructions, but for those of an expression.
type answer struct {
	numbers, live, places []int
	width, fewest         int
	code                  []impl.Instr
	narrow                bool
	shared                []impl.Wide
	left                  []int
}

// widesOf returns the wide instructions of texts with a / between two of them.
func widesOf(s string) []impl.Wide {
	var list []impl.Wide
	for _, text := range strings.FieldsFunc(s, func(r rune) bool { return r == '/' }) {
		words := strings.Fields(text)
		w := impl.Wide{Op: words[0]}
		if len(words) == 2 {
			w.K, _ = strconv.Atoi(words[1])
		} else {
			w.A, _ = strconv.Atoi(words[1])
			w.B, _ = strconv.Atoi(words[2])
		}
		list = append(list, w)
	}
	return list
}

// textOfWides returns the texts of wide instructions with a / between two of them.
func textOfWides(list []impl.Wide) string {
	var texts []string
	for _, w := range list {
		if w.Op == "set" {
			texts = append(texts, "set "+strconv.Itoa(w.K))
		} else {
			texts = append(texts, w.Op+" "+strconv.Itoa(w.A)+" "+strconv.Itoa(w.B))
		}
	}
	return strings.Join(texts, "/")
}

// numberBy works out one number from those ahead of it, with bytes that go round by themselves.
func numberBy(list []impl.Wide, i int) uint8 {
	w := list[i]
	if w.Op == "set" {
		return uint8(w.K)
	}
	a, b := numberBy(list, w.A), numberBy(list, w.B)
	switch w.Op {
	case "add":
		return a + b
	case "sub":
		return a - b
	case "mul":
		return a * b
	}
	if a < b {
		return 1
	}
	return 0
}

// takesBy reports whether a wide instruction takes a number.
func takesBy(w impl.Wide, j int) bool {
	return w.Op != "set" && (w.A == j || w.B == j)
}

// neededBy reports, number by number, whether one is needed just behind an instruction.
func neededBy(a ask, i, j int) bool {
	if j >= i {
		return j == i
	}
	return a.kept>>j&1 == 1 || slices.ContainsFunc(a.list[i+1:], func(w impl.Wide) bool { return takesBy(w, j) })
}

// fewestBy puts all numbers that may have one register together, in all ways, for all sets of numbers.
func fewestBy(live []int) int {
	apart := func(set int) bool {
		return !slices.ContainsFunc(live, func(l int) bool { return bits.OnesCount(uint(l&set)) > 1 })
	}
	fewest := make([]int, 1<<len(live))
	for set := 1; set < len(fewest); set++ {
		fewest[set] = len(live)
		for part := set; part > 0; part = (part - 1) & set {
			if part&(set&-set) != 0 && apart(part) {
				fewest[set] = min(fewest[set], 1+fewest[set&^part])
			}
		}
	}
	return fewest[len(fewest)-1]
}

// narrowBy puts the program together from texts.
func narrowBy(list []impl.Wide, places []int) ([]impl.Instr, bool) {
	text := ""
	for i, w := range list {
		text += w.Op + " r" + strconv.Itoa(places[i])
		if w.Op == "set" {
			text += " " + strconv.Itoa(w.K) + "\n"
		} else {
			text += " r" + strconv.Itoa(places[w.A]) + " r" + strconv.Itoa(places[w.B]) + "\n"
		}
	}
	return impl.ReadCode(text)
}

// treeOf returns all that a number is made of as a text, which is the same for add and mul the other way round.
func treeOf(list []impl.Wide, i int) string {
	w := list[i]
	if w.Op == "set" {
		return strconv.Itoa(w.K)
	}
	parts := []string{treeOf(list, w.A), treeOf(list, w.B)}
	if w.Op == "add" || w.Op == "mul" {
		slices.Sort(parts)
	}
	return "(" + w.Op + " " + parts[0] + " " + parts[1] + ")"
}

// shareBy leaves one instruction for each text of what is made.
func shareBy(list []impl.Wide) ([]impl.Wide, []int) {
	var shared []impl.Wide
	var trees []string
	var left []int
	for i, w := range list {
		tree := treeOf(list, i)
		if !slices.Contains(trees, tree) {
			trees = append(trees, tree)
			if w.Op != "set" {
				ends := []int{left[w.A], left[w.B]}
				if w.Op == "add" || w.Op == "mul" {
					slices.Sort(ends)
				}
				w.A, w.B = ends[0], ends[1]
			}
			shared = append(shared, w)
		}
		left = append(left, slices.Index(trees, tree))
	}
	return shared, left
}

func answerBy(a ask) answer {
	var want answer
	for i := range a.list {
		want.numbers = append(want.numbers, int(numberBy(a.list, i)))
		set, size := 0, 0
		var taken []int
		for j := range a.list {
			if neededBy(a, i, j) {
				set, size = set|1<<j, size+1
				if j < i {
					taken = append(taken, want.places[j])
				}
			}
		}
		place := 0
		for slices.Contains(taken, place) {
			place++
		}
		want.live, want.places = append(want.live, set), append(want.places, place)
		want.width = max(want.width, size)
	}
	want.fewest = fewestBy(want.live)
	want.code, want.narrow = narrowBy(a.list, want.places)
	want.shared, want.left = shareBy(a.list)
	return want
}

// answerOf returns all that the functions of chapter 6 return for wide instructions.
func answerOf(a ask) answer {
	got := answer{numbers: impl.RunWide(a.list), live: impl.LiveWide(a.list, a.kept), places: impl.PlacesFor(a.list, a.kept), width: impl.WidthOf(a.list, a.kept), fewest: impl.FewestRegs(a.list, a.kept)}
	got.code, got.narrow = impl.NarrowCode(a.list, a.kept)
	got.shared, got.left = impl.ShareWide(a.list)
	return got
}

func checkWide(t *testing.T, a ask) {
	t.Helper()
	if !impl.ValidWide(a.list) {
		t.Fatalf("ValidWide(%v) = false", a.list)
	}
	got, want := answerOf(a), answerBy(a)
	if !slices.Equal(got.numbers, want.numbers) {
		t.Fatalf("RunWide(%v) = %v, not %v", a.list, got.numbers, want.numbers)
	}
	if !slices.Equal(got.live, want.live) {
		t.Fatalf("LiveWide of %v = %v, not %v", a, got.live, want.live)
	}
	if got.width != want.width || got.fewest != want.fewest {
		t.Fatalf("WidthOf and FewestRegs of %v = %d, %d, not %d, %d", a, got.width, got.fewest, want.width, want.fewest)
	}
	if !slices.Equal(got.places, want.places) {
		t.Fatalf("PlacesFor %v = %v, not %v", a, got.places, want.places)
	}
	if got.narrow != want.narrow || !sameCode(got.code, want.code) {
		t.Fatalf("NarrowCode of %v = %v, %v, not %v, %v", a, got.code, got.narrow, want.code, want.narrow)
	}
	if !slices.Equal(got.shared, want.shared) || !slices.Equal(got.left, want.left) {
		t.Fatalf("ShareWide(%v) = %v, %v, not %v, %v", a.list, got.shared, got.left, want.shared, want.left)
	}
}

// longerLists returns the lists with one instruction more, each one of the numbers, and each one of the words with all that it may take.
func longerLists(lists [][]impl.Wide, numbers []int, words ...string) [][]impl.Wide {
	var longer [][]impl.Wide
	for _, list := range lists {
		for _, n := range numbers {
			longer = append(longer, append(slices.Clone(list), impl.Wide{Op: "set", K: n}))
		}
		for _, word := range words {
			for a := range list {
				for b := range list {
					longer = append(longer, append(slices.Clone(list), impl.Wide{Op: word, A: a, B: b}))
				}
			}
		}
	}
	return longer
}

// someWides returns wide instructions that take old numbers as often as new ones, and are often the same.
func someWides(g *lcg, size int) []impl.Wide {
	var list []impl.Wide
	near := g.below(2) == 0
	for i := range size {
		pick := func() int {
			if near {
				return max(0, i-1-g.below(3))
			}
			return g.below(i)
		}
		if i == 0 || g.below(3) == 0 {
			list = append(list, impl.Wide{Op: "set", K: []int{0, 1, 2, 255, g.below(256)}[g.below(5)]})
		} else {
			list = append(list, impl.Wide{Op: []string{"add", "sub", "mul", "lt"}[g.below(4)], A: pick(), B: pick()})
		}
	}
	return list
}

// asks returns all short wide instructions with all sets of kept numbers, and some of all sizes.
func asks() []ask {
	var all []ask
	ops := []string{"add", "sub", "mul", "lt"}
	lists := [][]impl.Wide{nil}
	for range 3 {
		for _, list := range lists {
			for kept := range 1 << len(list) {
				all = append(all, ask{list, kept})
			}
		}
		lists = longerLists(lists, []int{3, 255}, ops...)
	}
	few := [][]impl.Wide{nil}
	for range 4 {
		few = longerLists(few, []int{7}, "sub", "mul")
	}
	for _, list := range append(lists, few...) {
		for kept := range 1 << len(list) {
			all = append(all, ask{list, kept})
		}
	}
	g := lcg(6)
	for size := range 9 {
		for range 150 {
			list := someWides(&g, size)
			whole := 1 << size
			for _, kept := range []int{0, whole - 1, whole / 2, g.below(whole), g.below(whole)} {
				all = append(all, ask{list, kept})
			}
		}
	}
	return all
}

func TestWideOfAllKinds(t *testing.T) {
	for _, a := range asks() {
		checkWide(t, a)
	}
	if impl.MaxWide != 8 {
		t.Errorf("MaxWide = %d", impl.MaxWide)
	}
}

func TestNoWideInstructions(t *testing.T) {
	for _, list := range [][]impl.Wide{nil, {}} {
		checkWide(t, ask{list, 0})
		got := answerOf(ask{list, 0})
		if len(got.numbers) != 0 || len(got.live) != 0 || len(got.places) != 0 || got.width != 0 || got.fewest != 0 || len(got.code) != 0 || !got.narrow || len(got.shared) != 0 || len(got.left) != 0 {
			t.Errorf("no wide instructions make %v", got)
		}
	}
}

// P38: numbers go round as those of machines do.
func TestWideNumbers(t *testing.T) {
	for _, c := range []struct {
		list string
		want []int
	}{
		{"set 0", []int{0}},
		{"set 255", []int{255}},
		{"set 200/set 100/add 0 1/sub 1 0/mul 0 1/lt 1 0/lt 0 1", []int{200, 100, 44, 156, 32, 1, 0}},
		{"set 255/add 0 0/mul 0 0/sub 0 0/lt 0 0", []int{255, 254, 1, 0, 0}},
		{"set 0/set 1/sub 0 1/lt 0 2/lt 2 0", []int{0, 1, 255, 1, 0}},
		{"set 2/mul 0 0/mul 1 1/mul 2 2/add 3 2", []int{2, 4, 16, 0, 16}},
	} {
		if got := impl.RunWide(widesOf(c.list)); !slices.Equal(got, c.want) {
			t.Errorf("RunWide of %q = %v, not %v", c.list, got, c.want)
		}
	}
}

func TestNeededAndPlaced(t *testing.T) {
	eight := strings.TrimSuffix(strings.Repeat("set 1/", 8), "/")
	for _, c := range []struct {
		list   string
		kept   int
		live   []int
		width  int
		places []int
	}{
		{"set 1", 0, []int{1}, 1, []int{0}},
		{"set 1", 1, []int{1}, 1, []int{0}},
		// set takes nothing, though its A and B are 0.
		{"set 1/set 2/set 3", 0, []int{1, 2, 4}, 1, []int{0, 0, 0}},
		{"set 1/set 2/set 3", 1, []int{1, 3, 5}, 2, []int{0, 1, 1}},
		{"set 1/set 2/set 3", 2, []int{1, 2, 6}, 2, []int{0, 0, 1}},
		{"set 1/set 2/set 3", 4, []int{1, 2, 4}, 1, []int{0, 0, 0}},
		{"set 1/set 2/set 3", 7, []int{1, 3, 7}, 3, []int{0, 1, 2}},
		// A number may be put to the register of one that is taken for the last time.
		{"set 1/add 0 0", 0, []int{1, 2}, 1, []int{0, 0}},
		{"set 1/add 0 0", 1, []int{1, 3}, 2, []int{0, 1}},
		{"set 1/add 0 0/set 2/sub 1 2", 0, []int{1, 2, 6, 8}, 2, []int{0, 0, 1, 0}},
		{"set 1/set 2/mul 0 0/lt 2 1", 8, []int{1, 3, 6, 8}, 2, []int{0, 1, 0, 0}},
		{"set 1/set 2/set 3/add 0 1/add 2 3", 16, []int{1, 3, 7, 12, 16}, 3, []int{0, 1, 2, 0, 0}},
		// The least register that is free is between two others.
		{"set 1/set 2/set 3/lt 1 1/set 4/add 0 2", 8, []int{1, 3, 7, 13, 29, 40}, 4, []int{0, 1, 2, 1, 3, 0}},
		// A number that nobody takes has a register all the same.
		{"set 1/set 2/add 0 1/set 9/sub 0 1", 0, []int{1, 3, 7, 11, 16}, 3, []int{0, 1, 2, 2, 0}},
		{eight, 0, []int{1, 2, 4, 8, 16, 32, 64, 128}, 1, []int{0, 0, 0, 0, 0, 0, 0, 0}},
		{eight, 255, []int{1, 3, 7, 15, 31, 63, 127, 255}, 8, []int{0, 1, 2, 3, 4, 5, 6, 7}},
		{eight, 128, []int{1, 2, 4, 8, 16, 32, 64, 128}, 1, []int{0, 0, 0, 0, 0, 0, 0, 0}},
	} {
		a := ask{widesOf(c.list), c.kept}
		got := answerOf(a)
		if !slices.Equal(got.live, c.live) || got.width != c.width || got.fewest != c.width || !slices.Equal(got.places, c.places) {
			t.Errorf("of %q with %d are needed %v, at most %d, in %d, at %v", c.list, c.kept, got.live, got.width, got.fewest, got.places)
		}
	}
}

func TestNarrowPrograms(t *testing.T) {
	for _, c := range []struct {
		list string
		kept int
		want string
	}{
		{"set 0", 0, "set r0 0"},
		{"set 1/set 2/set 3/set 4", 15, "set r0 1/set r1 2/set r2 3/set r3 4"},
		{"set 1/set 2/set 3/set 4/add 3 2", 7, "set r0 1/set r1 2/set r2 3/set r3 4/add r3 r3 r2"},
		{"set 1/set 2/set 3/set 4/lt 3 0/mul 4 1", 32, "set r0 1/set r1 2/set r2 3/set r2 4/lt r0 r2 r0/mul r0 r0 r1"},
		{"set 9/sub 0 0/sub 1 0", 4, "set r0 9/sub r1 r0 r0/sub r0 r1 r0"},
		// With five registers there is none, also if the fifth one is of a number that nobody takes.
		{"set 1/set 2/set 3/set 4/set 5", 31, ""},
		{"set 1/set 2/set 3/set 4/add 3 2", 15, ""},
		{"set 1/set 2/set 3/set 4/set 5/set 6", 15, ""},
		{"set 1/set 2/set 3/set 4/set 5/set 6/set 7/set 8", 255, ""},
		{"set 1/add 0 0/add 1 0/add 2 0/add 3 0/add 4 1", 62, ""},
	} {
		code, ok := impl.NarrowCode(widesOf(c.list), c.kept)
		if lineOf(code) != c.want || ok != (c.want != "") {
			t.Errorf("NarrowCode of %q with %d = %q, %v", c.list, c.kept, lineOf(code), ok)
		}
	}
}

// P37: the first ones of wide instructions are wide instructions, and nothing else is.
func TestWideInstructionsAreCut(t *testing.T) {
	for _, a := range asks() {
		for i := range a.list {
			if !impl.ValidWide(a.list[:i]) {
				t.Fatalf("ValidWide(%v) = false", a.list[:i])
			}
		}
	}
}

// P38: what is made ahead of the last one is made without it.
func TestNumbersAreMadeInOrder(t *testing.T) {
	for _, a := range asks() {
		numbers := impl.RunWide(a.list)
		if len(numbers) != len(a.list) {
			t.Fatalf("RunWide(%v) = %v", a.list, numbers)
		}
		for i, n := range numbers {
			if n < 0 || n > 255 || !slices.Equal(impl.RunWide(a.list[:i]), numbers[:i]) {
				t.Fatalf("RunWide(%v) = %v", a.list, numbers)
			}
		}
	}
}

// P39: what is needed is made by then: its own number, what the next one takes, and at last what is kept.
func TestWhatIsNeededIsMade(t *testing.T) {
	for _, a := range asks() {
		live := impl.LiveWide(a.list, a.kept)
		if len(live) != len(a.list) {
			t.Fatalf("LiveWide of %v = %v", a, live)
		}
		for i, set := range live {
			if set>>i != 1 {
				t.Fatalf("LiveWide of %v = %v", a, live)
			}
			last := i == len(live)-1
			if last && set != a.kept|1<<i {
				t.Fatalf("LiveWide of %v = %v", a, live)
			}
			if !last && a.list[i+1].Op != "set" && (set>>a.list[i+1].A&1 == 0 || set>>a.list[i+1].B&1 == 0) {
				t.Fatalf("LiveWide of %v = %v", a, live)
			}
		}
	}
}

// P40: as many registers as are needed at once are enough, by the least ones and by any.
func TestWidthIsEnough(t *testing.T) {
	for _, a := range asks() {
		width, fewest, most := impl.WidthOf(a.list, a.kept), impl.FewestRegs(a.list, a.kept), 0
		for _, set := range impl.LiveWide(a.list, a.kept) {
			most = max(most, bits.OnesCount(uint(set)))
		}
		if width != most || fewest != width {
			t.Fatalf("WidthOf %v = %d, and FewestRegs = %d", a, width, fewest)
		}
		for _, p := range impl.PlacesFor(a.list, a.kept) {
			if p < 0 || p >= width {
				t.Fatalf("PlacesFor %v = %v", a, impl.PlacesFor(a.list, a.kept))
			}
		}
	}
}

// P41: no two numbers that are needed at once are in one register.
func TestNoTwoHaveOnePlace(t *testing.T) {
	for _, a := range asks() {
		places := impl.PlacesFor(a.list, a.kept)
		if len(places) != len(a.list) {
			t.Fatalf("PlacesFor %v = %v", a, places)
		}
		for _, set := range impl.LiveWide(a.list, a.kept) {
			met := map[int]bool{}
			for i, p := range places {
				if set>>i&1 == 1 && met[p] {
					t.Fatalf("PlacesFor %v = %v", a, places)
				}
				met[p] = met[p] || set>>i&1 == 1
			}
		}
	}
}

// P42: all that is kept takes a register each, and one more that is kept takes no fewer.
func TestMoreKeptTakesNoFewer(t *testing.T) {
	for _, a := range asks() {
		fewest := impl.FewestRegs(a.list, a.kept)
		all := impl.FewestRegs(a.list, 1<<len(a.list)-1)
		if all != len(a.list) || all < fewest {
			t.Fatalf("FewestRegs of %v = %d, and with all %d", a, fewest, all)
		}
		for i := range a.list {
			if more := impl.FewestRegs(a.list, a.kept|1<<i); more < fewest {
				t.Fatalf("FewestRegs of %v = %d, and with %d %d", a, fewest, i, more)
			}
		}
	}
}

// P43: behind each instruction all that is needed is in its register, whatever was in it, and at last what is kept.
func TestNarrowProgramsKeepWhatIsKept(t *testing.T) {
	g := lcg(43)
	narrow, wide := 0, 0
	for _, a := range asks() {
		code, ok := impl.NarrowCode(a.list, a.kept)
		if ok != (impl.WidthOf(a.list, a.kept) <= 4) {
			t.Fatalf("NarrowCode of %v is %v", a, ok)
		}
		if !ok {
			wide++
			continue
		}
		narrow++
		if !impl.ValidCode(code) || len(code) != len(a.list) {
			t.Fatalf("NarrowCode of %v = %v", a, code)
		}
		numbers, live, places := impl.RunWide(a.list), impl.LiveWide(a.list, a.kept), impl.PlacesFor(a.list, a.kept)
		m := someMachine(&g, 0)
		for fuel := 1; fuel <= len(code); fuel++ {
			end, _, _ := impl.RunMachine(code, m, fuel)
			for i, n := range numbers {
				if live[fuel-1]>>i&1 == 1 && end.Regs[places[i]] != n {
					t.Fatalf("NarrowCode of %v = %v, which leaves %v behind %d", a, code, end, fuel)
				}
			}
		}
		end, steps, done := impl.RunMachine(code, m, 300)
		if !done || steps != len(code) || !slices.Equal(end.Mem, m.Mem) {
			t.Fatalf("NarrowCode of %v = %v, which leaves %v", a, code, end)
		}
		for i, n := range numbers {
			if a.kept>>i&1 == 1 && end.Regs[places[i]] != n {
				t.Fatalf("NarrowCode of %v = %v, which leaves %v", a, code, end)
			}
		}
	}
	if narrow < 2000 || wide < 500 {
		t.Errorf("%d are narrow, and %d are wide", narrow, wide)
	}
}

// wideBy returns the wide instructions of words from the right to the left: what is ahead of the last sign, and the atom behind it.
func wideBy(words []string) ([]impl.Wide, bool) {
	inside := 0
	for i, word := range slices.Backward(words) {
		switch {
		case word == ")":
			inside++
		case word == "(":
			inside--
		case inside == 0 && len(word) == 1 && strings.Contains("+-*<", word):
			left, okLeft := wideBy(words[:i])
			right, okRight := atomBy(words[i+1:])
			list := slices.Clone(left)
			for _, w := range right {
				if w.Op != "set" {
					w.A, w.B = w.A+len(left), w.B+len(left)
				}
				list = append(list, w)
			}
			op := map[string]string{"+": "add", "-": "sub", "*": "mul", "<": "lt"}[word]
			return append(list, impl.Wide{Op: op, A: len(left) - 1, B: len(list) - 1}), okLeft && okRight
		}
	}
	return atomBy(words)
}

func atomBy(words []string) ([]impl.Wide, bool) {
	if len(words) == 1 {
		n, _ := strconv.Atoi(words[0])
		return []impl.Wide{{Op: "set", K: n}}, numberPattern.MatchString(words[0])
	}
	if len(words) < 3 || words[0] != "(" || words[len(words)-1] != ")" {
		return nil, false
	}
	return wideBy(words[1 : len(words)-1])
}

// checkExpression fails if a text is not made wide as its words are; it returns whether there are wide instructions.
func checkExpression(t *testing.T, s string) bool {
	t.Helper()
	want, ok := wideBy(wordsBy(s))
	if !ok || len(want) > 8 || len(s) > 200 {
		want, ok = nil, false
	}
	got, gotOk := impl.WideOf(s)
	if gotOk != ok || !slices.Equal(got, want) || gotOk && !impl.ValidWide(got) {
		t.Fatalf("WideOf(%q) = %v, %v, not %v, %v", s, got, gotOk, want, ok)
	}
	return ok
}

// numberTerm returns a term of numbers alone, of so many of them.
func numberTerm(g *lcg, size int) *term {
	if size == 1 {
		return &term{atom: []string{"0", "1", "2", "255", strconv.Itoa(g.below(256))}[g.below(5)]}
	}
	left := 1 + g.below(size-1)
	return &term{sign: []string{"+", "-", "*", "<"}[g.below(4)], left: numberTerm(g, left), right: numberTerm(g, size-left)}
}

// P44: the last number of an expression is what a is behind it, if it is no deeper than it may be in a source.
func TestExpressionsAreMadeWide(t *testing.T) {
	g := lcg(44)
	shallow, deep, many := 0, 0, 0
	for range 6000 {
		size := 1 + g.below(6)
		x := numberTerm(&g, size)
		text := textOfWords(x.words(&g), &g)
		if !checkExpression(t, text) {
			if size <= 4 && len(text) <= 200 {
				t.Fatalf("WideOf(%q) is not there", text)
			}
			many++
			continue
		}
		list, _ := impl.WideOf(text)
		numbers := impl.RunWide(list)
		if len(list) != 2*size-1 || numbers[len(numbers)-1] != int(x.value([4]uint8{})) {
			t.Fatalf("WideOf(%q) = %v", text, list)
		}
		vars, ok := impl.RunSource("a="+text+";", someVars(&g), 1)
		if !ok {
			deep++
			continue
		}
		shallow++
		code, _ := impl.CompileSource("a=" + text + ";")
		end, _, _ := impl.RunMachine(code, impl.NewMachine(), 300)
		if n := numbers[len(numbers)-1]; vars[0] != n || end.Mem[0] != n {
			t.Fatalf("WideOf(%q) = %v, but a is %d and %d", text, list, vars[0], end.Mem[0])
		}
	}
	if shallow < 2000 || deep < 100 || many < 1000 {
		t.Errorf("%d expressions are in sources, %d are too deep, and %d are too long", shallow, deep, many)
	}
}

// P44: a row of words is an expression just if it may be taken apart, for all short rows.
func TestRowsOfWordsOfExpressions(t *testing.T) {
	words := []string{"7", "1", "+", "-", "<", "(", ")", "a", "=", ";"}
	rows, found := []string{""}, 0
	for range 5 {
		var longer []string
		for _, row := range rows {
			for _, word := range words {
				longer = append(longer, row+word+" ")
				if checkExpression(t, row+word+" ") {
					found++
				}
			}
		}
		rows = longer
	}
	if found < 100 {
		t.Errorf("%d rows are expressions", found)
	}
}

func TestExpressions(t *testing.T) {
	for _, c := range [][2]string{
		{"0", "set 0"},
		{"255", "set 255"},
		{" \n7\n ", "set 7"},
		{"(7)", "set 7"},
		{"((7))", "set 7"},
		{"1+1", "set 1/set 1/add 0 1"},
		{"3-2-1", "set 3/set 2/sub 0 1/set 1/sub 2 3"},
		{"(3-2)-1", "set 3/set 2/sub 0 1/set 1/sub 2 3"},
		{"3-(2-1)", "set 3/set 2/set 1/sub 1 2/sub 0 3"},
		{"1<2*3", "set 1/set 2/lt 0 1/set 3/mul 2 3"},
		{"(1<2)*(3+4)", "set 1/set 2/lt 0 1/set 3/set 4/add 3 4/mul 2 5"},
		// An expression may be deeper than in a source.
		{"1+(2+(3+4))", "set 1/set 2/set 3/set 4/add 2 3/add 1 4/add 0 5"},
		{strings.Repeat("(", 99) + "12" + strings.Repeat(")", 99), "set 12"},
		{"7" + strings.Repeat(" ", 199), "set 7"},
	} {
		list, ok := impl.WideOf(c[0])
		if !ok || textOfWides(list) != c[1] || !slices.Equal(list, widesOf(c[1])) {
			t.Errorf("WideOf(%q) = %v, %v", c[0], list, ok)
		}
	}
	for _, s := range []string{
		"", " ", "()", "(", ")", "+", "-1", "+1", "1+", "1 1", "1(2)", "(1)2", "(1)(2)", "(1", "1)", "1++2", "1+(2", "(1+2))", ")1(", "(1+2)-)3(",
		"a", "a+1", "1+d", "(b)", "e", "x", "1a", "0x1", "1=1", "1;", "a=1;", "if", "1,2", "1.0", "1_0", "1\t", "\t1", "1\r", "1\x00", "[1]", "{1}", "1/1", "1>1", "\xff",
		"256", "1+256", "999999999999999999999", "18446744073709551617", "00", "01", "1+01",
		"1+1+1+1+1", "1+(1+(1+(1+1)))", "(1+1)*(1+1)*1", "1+1+1+1+1+1+1+1+1",
		strings.Repeat("(", 100) + "1" + strings.Repeat(")", 100), "7" + strings.Repeat(" ", 200), strings.Repeat("(", 200), strings.Repeat("(", 2000000), strings.Repeat("1+", 100), strings.Repeat("1", 200),
	} {
		if list, ok := impl.WideOf(s); ok || len(list) != 0 {
			t.Errorf("WideOf(%.40q) = %v, %v", s, list, ok)
		}
	}
}

func TestShared(t *testing.T) {
	for _, c := range []struct {
		list, shared string
		left         []int
	}{
		{"set 1", "set 1", []int{0}},
		{"set 1/set 1/set 1", "set 1", []int{0, 0, 0}},
		{"set 0/set 1/set 0/set 2/set 1", "set 0/set 1/set 2", []int{0, 1, 0, 2, 1}},
		// add and mul are the same the other way round, and sub and lt are not.
		{"set 1/set 2/add 0 1/add 1 0/mul 1 0/mul 0 1", "set 1/set 2/add 0 1/mul 0 1", []int{0, 1, 2, 2, 3, 3}},
		{"set 1/set 2/sub 0 1/sub 1 0/lt 1 0/lt 0 1", "set 1/set 2/sub 0 1/sub 1 0/lt 1 0/lt 0 1", []int{0, 1, 2, 3, 4, 5}},
		{"set 1/set 2/sub 1 0/sub 1 0/lt 1 0/lt 1 0", "set 1/set 2/sub 1 0/lt 1 0", []int{0, 1, 2, 2, 3, 3}},
		// The lesser one is first, also if nothing is left out.
		{"set 1/set 2/add 1 0", "set 1/set 2/add 0 1", []int{0, 1, 2}},
		{"set 1/set 2/mul 1 0/mul 2 1", "set 1/set 2/mul 0 1/mul 1 2", []int{0, 1, 2, 3}},
		// What is left in place of what is taken decides which one is the lesser, and which ones are the same.
		{"set 1/set 2/set 1/add 1 2/sub 2 1/sub 0 1", "set 1/set 2/add 0 1/sub 0 1", []int{0, 1, 0, 2, 3, 3}},
		{"set 5/set 5/add 0 1/add 1 1/lt 2 3/lt 3 3", "set 5/add 0 0/lt 1 1", []int{0, 0, 1, 1, 2, 2}},
		{"set 3/set 4/add 0 1/add 1 0/sub 2 3/sub 3 2/mul 4 5/mul 5 4", "set 3/set 4/add 0 1/sub 2 2/mul 3 3", []int{0, 1, 2, 2, 3, 3, 4, 4}},
		// The same number is not enough, if it is made otherwise.
		{"set 1/set 0/sub 0 0/mul 0 0/add 0 1/sub 0 1", "set 1/set 0/sub 0 0/mul 0 0/add 0 1/sub 0 1", []int{0, 1, 2, 3, 4, 5}},
		{"set 0/add 0 0/mul 0 0/sub 0 0/lt 0 0", "set 0/add 0 0/mul 0 0/sub 0 0/lt 0 0", []int{0, 1, 2, 3, 4}},
	} {
		shared, left := impl.ShareWide(widesOf(c.list))
		if !slices.Equal(shared, widesOf(c.shared)) || !slices.Equal(left, c.left) {
			t.Errorf("ShareWide of %q = %q, %v", c.list, textOfWides(shared), left)
		}
	}
}

// P45: what is left makes the same number, and nothing more can be left out.
func TestWhatIsSharedMakesTheSame(t *testing.T) {
	fewer := 0
	for _, a := range asks() {
		shared, left := impl.ShareWide(a.list)
		numbers, same := impl.RunWide(a.list), impl.RunWide(shared)
		if !impl.ValidWide(shared) || len(left) != len(a.list) || len(same) != len(shared) {
			t.Fatalf("ShareWide(%v) = %v, %v", a.list, shared, left)
		}
		for i, n := range numbers {
			if left[i] < 0 || left[i] > i || same[left[i]] != n {
				t.Fatalf("ShareWide(%v) = %v, %v", a.list, shared, left)
			}
		}
		again, stay := impl.ShareWide(shared)
		if !slices.Equal(again, shared) {
			t.Fatalf("ShareWide(%v) = %v", shared, again)
		}
		for i, n := range stay {
			if n != i {
				t.Fatalf("ShareWide(%v) leaves %v", shared, stay)
			}
		}
		if len(shared) < len(a.list) {
			fewer++
		}
	}
	if fewer < 1000 {
		t.Errorf("%d are fewer", fewer)
	}
}

// checkNothingWide fails if there is an answer of any kind.
func checkNothingWide(t *testing.T, a ask) {
	t.Helper()
	got := answerOf(a)
	if len(got.live) != 0 || len(got.places) != 0 || got.width != -1 || got.fewest != -1 || len(got.code) != 0 || got.narrow {
		t.Errorf("%v makes %v", a, got)
	}
}

// wrongWides returns lists that are not valid by one instruction, which stands first, last or between others.
func wrongWides() [][]impl.Wide {
	var lists [][]impl.Wide
	far := []int{-1, -2, 9, 64, 256, math.MaxInt, math.MinInt}
	for at := range 4 {
		var wrong []impl.Wide
		for _, n := range append([]int{1, 7}, far...) {
			wrong = append(wrong, impl.Wide{Op: "set", A: n}, impl.Wide{Op: "set", B: n}, impl.Wide{Op: "set", A: n, B: n})
		}
		for _, n := range []int{-1, -255, 256, 512, math.MaxInt, math.MinInt} {
			wrong = append(wrong, impl.Wide{Op: "set", K: n})
		}
		for _, op := range []string{"add", "sub", "mul", "lt"} {
			for _, n := range append([]int{at, at + 1}, far...) {
				wrong = append(wrong, impl.Wide{Op: op, A: n}, impl.Wide{Op: op, B: n}, impl.Wide{Op: op, A: n, B: n})
			}
			for _, n := range append([]int{1, 7, 255}, far...) {
				wrong = append(wrong, impl.Wide{Op: op, K: n})
			}
		}
		for _, op := range []string{"", " ", "ld", "st", "bz", "jmp", "hlt", "SET", "set ", " add", "+", "nop", "Lt", "sett", "se"} {
			wrong = append(wrong, impl.Wide{Op: op})
		}
		for _, w := range wrong {
			first := slices.Repeat([]impl.Wide{{Op: "set", K: 3}}, at)
			lists = append(lists, append(first, w), append(append(slices.Clone(first), w), impl.Wide{Op: "set"}))
		}
	}
	return append(lists, make([]impl.Wide, 1), make([]impl.Wide, 8), slices.Repeat([]impl.Wide{{Op: "set"}}, 9), slices.Repeat([]impl.Wide{{Op: "set"}}, 100))
}

func TestNothingWideOfOthers(t *testing.T) {
	for _, list := range wrongWides() {
		if impl.ValidWide(list) {
			t.Errorf("ValidWide(%v) = true", list)
		}
		for _, kept := range []int{0, 1, 1<<len(list[:min(len(list), 8)]) - 1, -1} {
			checkNothingWide(t, ask{list, kept})
		}
		got := answerOf(ask{list, 0})
		if len(got.numbers) != 0 || len(got.shared) != 0 || len(got.left) != 0 {
			t.Errorf("%v makes %v", list, got)
		}
	}
}

// What is kept must be made.
func TestNothingIsKeptThatIsNotMade(t *testing.T) {
	g := lcg(60)
	for size := range 9 {
		list := someWides(&g, size)
		checkWide(t, ask{list, 0})
		checkWide(t, ask{list, 1<<size - 1})
		for _, kept := range []int{1 << size, 1<<size + 1, 1<<(size+1) - 1, 1 << 8, 1 << 32, 1 << 62, math.MaxInt, math.MinInt, -1, -2, -256} {
			checkNothingWide(t, ask{list, kept})
		}
	}
}

// Wide instructions that are given stay as they are, and what is returned is new each time.
func TestWideOfItsOwn(t *testing.T) {
	for _, s := range []string{"set 1", "set 1/set 1/add 1 0/mul 2 1", "set 4/set 5/set 6/sub 0 1/sub 2 3"} {
		list := append(widesOf(s), impl.Wide{Op: "lt"})
		given := list[:len(list)-1]
		before := slices.Clone(list)
		a := ask{given, 1<<len(given) - 1}
		got := answerOf(a)
		checkApart(t, [][]int{got.numbers, got.live, got.places, got.left})
		spoil(got.code, impl.Instr{Op: "x"})
		spoil(got.shared, impl.Wide{Op: "x"})
		if !slices.Equal(list, before) {
			t.Errorf("the wide instructions that were given are now %v", list)
		}
		checkWide(t, a)
		once, _ := impl.WideOf("1 + 2")
		spoil(once, impl.Wide{Op: "x"})
		checkExpression(t, "1 + 2")
	}
}
