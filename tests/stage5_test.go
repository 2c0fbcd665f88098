package tests

import (
	"slices"
	"strconv"
	"strings"
	"testing"

	"loop.example/smallmachines/impl"
)

// better is all that the functions of chapter 5 are to return for a program.
type better struct {
	known   [][]int
	folded  []impl.Instr
	skipped []impl.Instr
	best    []impl.Instr
}

// anything stands for a number of which nothing is told yet.
const anything = -3

// bothBy is what two ways to an instruction tell of a register together.
func bothBy(a, b int) int {
	switch {
	case a == anything:
		return b
	case b == anything || a == b:
		return a
	}
	return -1
}

// leftBy is what an instruction leaves of what is known ahead of it, by a machine with the numbers in its registers.
func leftBy(c impl.Instr, row [4]int) [4]int {
	left := row
	switch c.Op {
	case "set":
		left[c.D] = c.K
	case "ld":
		left[c.D] = -1
	case "add", "sub", "mul", "lt":
		a, b := row[c.A], row[c.B]
		switch {
		case a == -1 || b == -1:
			left[c.D] = -1
		case a == anything || b == anything:
			left[c.D] = anything
		default:
			m := machineAt(0, [4]int{}, [8]int{})
			m.Regs[c.A], m.Regs[c.B] = a, b
			m, _ = stepBy([]impl.Instr{c}, m)
			left[c.D] = m.Regs[c.D]
		}
	}
	return left
}

// knownBy works out all rows anew from those of the round ahead, at first of anything, until they stay.
func knownBy(code []impl.Instr) [][]int {
	var next [][]int
	for i := range code {
		next = append(next, nextBy(code, i))
	}
	reach := reachBy(next)
	none := [4]int{anything, anything, anything, anything}
	rows := slices.Repeat([][4]int{none}, len(code)+1)
	for {
		now := slices.Repeat([][4]int{none}, len(code)+1)
		now[0] = [4]int{-1, -1, -1, -1}
		for i, c := range code {
			left := leftBy(c, rows[i])
			for _, k := range next[i] {
				for r := range left {
					if reach[i] {
						now[k][r] = bothBy(now[k][r], left[r])
					}
				}
			}
		}
		if slices.Equal(now, rows) {
			break
		}
		rows = now
	}
	var known [][]int
	for i, row := range rows {
		if !reach[i] {
			row = [4]int{-2, -2, -2, -2}
		}
		known = append(known, slices.Clone(row[:]))
	}
	return known
}

func foldBy(code []impl.Instr) []impl.Instr {
	known := knownBy(code)
	var folded []impl.Instr
	for i, c := range code {
		switch c.Op {
		case "add", "sub", "mul", "lt":
			if known[i][c.A] >= 0 && known[i][c.B] >= 0 {
				c = impl.Instr{Op: "set", D: c.D, K: leftBy(c, [4]int(known[i]))[c.D]}
			}
		case "bz":
			if known[i][c.A] == 0 {
				c = impl.Instr{Op: "jmp", K: c.K}
			} else if known[i][c.A] > 0 {
				c = impl.Instr{Op: "jmp", K: i + 1}
			}
		}
		folded = append(folded, c)
	}
	return folded
}

// skipBy follows each row by a list of all jmps that it has come to.
func skipBy(code []impl.Instr) []impl.Instr {
	led := slices.Clone(code)
	for i, c := range code {
		if c.Op != "bz" && c.Op != "jmp" {
			continue
		}
		var row []int
		at := c.K
		for at < len(code) && code[at].Op == "jmp" && !slices.Contains(row, at) {
			row = append(row, at)
			at = code[at].K
		}
		if !slices.Contains(row, at) {
			led[i].K = at
		}
	}
	var left []impl.Instr
	for i, c := range led {
		if c.Op != "bz" && c.Op != "jmp" {
			left = append(left, c)
			continue
		}
		if c.K == i+1 {
			continue
		}
		to := 0
		for k, ahead := range led[:c.K] {
			if ahead.Op != "bz" && ahead.Op != "jmp" || ahead.K != k+1 {
				to++
			}
		}
		c.K = to
		left = append(left, c)
	}
	return left
}

func shrinkBy(code []impl.Instr) []impl.Instr {
	for {
		var next [][]int
		for i := range code {
			next = append(next, nextBy(code, i))
		}
		left := dropBy(code, reachBy(next), liveBy(code, next))
		if len(left) == len(code) {
			return left
		}
		code = left
	}
}

// bestBy returns what is left of a program behind all passes, and how many times there was another one.
func bestBy(code []impl.Instr) ([]impl.Instr, int) {
	for passes := range 60 {
		next := shrinkBy(skipBy(foldBy(code)))
		if sameCode(next, code) {
			return code, passes
		}
		code = next
	}
	return code, 60
}

func betterBy(code []impl.Instr) better {
	b := better{known: knownBy(code), folded: foldBy(code), skipped: skipBy(code)}
	b.best, _ = bestBy(code)
	return b
}

// betterOf returns all that the functions of chapter 5 return for a program.
func betterOf(code []impl.Instr) better {
	return better{impl.KnownAt(code), impl.FoldCode(code), impl.SkipCode(code), impl.BetterCode(code)}
}

// lineOf returns the text of a program with a / between two instructions.
func lineOf(code []impl.Instr) string {
	return strings.TrimSuffix(strings.ReplaceAll(impl.ShowCode(code), "\n", "/"), "/")
}

func checkBetter(t *testing.T, code []impl.Instr) {
	t.Helper()
	got, want := betterOf(code), betterBy(code)
	if !sameRows(got.known, want.known) {
		t.Fatalf("KnownAt %q = %v, not %v", lineOf(code), got.known, want.known)
	}
	if !sameCode(got.folded, want.folded) {
		t.Fatalf("FoldCode %q = %v, not %v", lineOf(code), got.folded, want.folded)
	}
	if !sameCode(got.skipped, want.skipped) {
		t.Fatalf("SkipCode %q = %v, not %v", lineOf(code), got.skipped, want.skipped)
	}
	if !sameCode(got.best, want.best) {
		t.Fatalf("BetterCode %q = %v, not %v", lineOf(code), got.best, want.best)
	}
}

// tellingCode returns a program of which much is known: it sets few numbers, and jumps by them, also in circles.
func tellingCode(g *lcg, size int) []impl.Instr {
	code := make([]impl.Instr, size)
	for i := range code {
		d, a, b, k := g.below(4), g.below(4), g.below(4), g.below(size+1)
		switch g.below(16) {
		case 0, 1, 2, 3:
			code[i] = impl.Instr{Op: "set", D: d, K: []int{0, 0, 1, 255}[g.below(4)]}
		case 4, 5, 6:
			code[i] = impl.Instr{Op: []string{"add", "sub", "mul", "lt"}[g.below(4)], D: d, A: a, B: b}
		case 7:
			code[i] = impl.Instr{Op: "ld", D: d, A: a, K: g.below(8)}
		case 8, 9:
			code[i] = impl.Instr{Op: "st", D: d, A: a, K: g.below(8)}
		case 10, 11:
			code[i] = impl.Instr{Op: "bz", A: a, K: min(i+1+g.below(4), size)}
		case 12, 13:
			code[i] = impl.Instr{Op: "bz", A: a, K: k}
		default:
			code[i] = impl.Instr{Op: "jmp", K: k}
		}
	}
	return code
}

// tellingCodes returns programs of all sizes and kinds, many of which tell their numbers.
func tellingCodes(t *testing.T) [][]impl.Instr {
	g := lcg(5)
	codes := flowCodes(t)
	for size := 1; size <= 40; size++ {
		for range 30 {
			codes = append(codes, tellingCode(&g, size))
		}
	}
	return append(codes, longChain())
}

// longChain returns a program of which each pass makes one more register known, as it takes out one way to it.
func longChain() []impl.Instr {
	code := []impl.Instr{{Op: "set", D: 0}, {Op: "set", D: 1}}
	for len(code) < 38 {
		known := len(code) / 2 % 2
		code = append(code, impl.Instr{Op: "bz", A: known, K: len(code) + 2}, impl.Instr{Op: "set", D: 1 - known, K: 5})
	}
	return append(code, impl.Instr{Op: "st", D: 0, A: 1, K: 3}, impl.Instr{Op: "st", D: 1, A: 0, K: 4})
}

// strolls returns the programs of tellingCodes with machines at their beginning.
func strolls(t *testing.T) []journey {
	g := lcg(51)
	var all []journey
	for _, code := range tellingCodes(t) {
		all = append(all, journey{code, impl.NewMachine()}, journey{code, someMachine(&g, 0)}, journey{code, someMachine(&g, 0)})
	}
	return all
}

func TestKnownOfAllKinds(t *testing.T) {
	for _, code := range tellingCodes(t) {
		checkBetter(t, code)
	}
}

// All short programs of some instructions are made better as it is worked out here.
func TestKnownOfAllShortPrograms(t *testing.T) {
	check := func(code []impl.Instr) { checkBetter(t, code) }
	for size := range 4 {
		eachCode(t, size, []string{"hlt", "set r0 0", "set r0 1", "set r1 1", "add r0 r0 r1", "sub r1 r0 r0", "ld r0 r1 0", "st r0 r1 0"}, check)
	}
	eachCode(t, 4, []string{"set r0 0", "lt r0 r0 r1", "set r1 1"}, check)
}

func TestNothingIsKnownWithoutInstructions(t *testing.T) {
	for _, code := range [][]impl.Instr{nil, {}} {
		b := betterOf(code)
		if !sameRows(b.known, [][]int{{-1, -1, -1, -1}}) || len(b.folded) != 0 || len(b.skipped) != 0 || len(b.best) != 0 {
			t.Errorf("no instructions are made %v", b)
		}
	}
}

// rowsText writes rows with a / between two of them: x if it is not reached, and - for what is not known.
func rowsText(rows [][]int) string {
	var texts []string
	for _, row := range rows {
		var words []string
		for _, n := range row {
			words = append(words, strconv.Itoa(n))
		}
		text := strings.ReplaceAll(strings.Join(words, " "), "-1", "-")
		if text == "-2 -2 -2 -2" {
			text = "x"
		}
		texts = append(texts, text)
	}
	return strings.Join(texts, "/")
}

func TestKnownRows(t *testing.T) {
	for _, c := range [][2]string{
		// The registers of the beginning are not known, also if all jumps back to it know them.
		{"st r0 r1 2", "- - - -/- - - -"},
		{"set r0 1/jmp 0", "- - - -/1 - - -/x"},
		{"set r0 0/bz r1 0", "- - - -/0 - - -/0 - - -"},
		{"add r1 r0 r2/lt r0 r3 r3/bz r2 0", "- - - -/- - - -/- - - -/- - - -"},
		// No number that is not known makes one that is.
		{"set r1 0/mul r2 r1 r0/sub r3 r0 r0/lt r2 r0 r0/add r1 r1 r1", "- - - -/- 0 - -/- 0 - -/- 0 - -/- 0 - -/- 0 - -"},
		{"set r2 4/set r1 3/mul r2 r1 r0/add r1 r0 r1", "- - - -/- - 4 -/- 3 4 -/- 3 - -/- - - -"},
		{"set r0 3/set r1 4/st r0 r1 0/ld r0 r1 0", "- - - -/3 - - -/3 4 - -/3 4 - -/- 4 - -"},
		// Numbers go round as those of machines do.
		{"set r0 200/add r1 r0 r0/sub r2 r1 r0/mul r3 r0 r0/lt r0 r2 r1", "- - - -/200 - - -/200 144 - -/200 144 200 -/200 144 200 64/0 144 200 64"},
		{"set r0 1/set r3 255/lt r1 r0 r3/lt r2 r3 r0/add r3 r3 r0/sub r3 r3 r0", "- - - -/1 - - -/1 - - 255/1 1 - 255/1 1 0 255/1 1 0 0/1 1 0 255"},
		// Two ways tell what they both tell.
		{"bz r0 3/set r1 6/jmp 4/set r1 6/st r1 r1 0", "- - - -/- - - -/- 6 - -/- - - -/- 6 - -/- 6 - -"},
		{"bz r0 3/set r1 6/jmp 4/set r1 7/st r1 r1 0", "- - - -/- - - -/- 6 - -/- - - -/- - - -/- - - -"},
		{"bz r3 4/set r0 1/set r1 2/jmp 6/set r0 2/set r1 1/add r2 r0 r1", "- - - -/- - - -/1 - - -/1 2 - -/- - - -/2 - - -/- - - -/- - - -"},
		{"bz r0 2/set r0 0/add r1 r0 r0", "- - - -/- - - -/- - - -/- - - -"},
		// A bz of a number that is known has both ways all the same.
		{"set r0 0/bz r0 3/set r1 1/st r1 r1 0", "- - - -/0 - - -/0 - - -/0 - - -/0 - - -"},
		{"set r0 1/bz r0 3/set r0 1/add r0 r0 r0", "- - - -/1 - - -/1 - - -/1 - - -/2 - - -"},
		{"set r2 9/bz r0 2/mul r2 r2 r2", "- - - -/- - 9 -/- - 9 -/- - 81 -"},
		// What is not reached tells nothing, and nothing is told of it.
		{"hlt", "- - - -/x"},
		{"jmp 2/set r0 1/set r1 2/hlt/set r2 3", "- - - -/x/- - - -/- 2 - -/x/x"},
		{"set r0 1/jmp 4/set r0 2/jmp 4/st r0 r0 0", "- - - -/1 - - -/x/x/1 - - -/1 - - -"},
		{"set r0 1/hlt/jmp 1", "- - - -/1 - - -/x/x"},
		// Loops know what they do not change, or change to the same, and no more.
		{"set r0 2/jmp 1", "- - - -/2 - - -/x"},
		{"bz r0 0", "- - - -/- - - -"},
		{"set r3 9/bz r3 1/lt r2 r3 r3", "- - - -/- - - 9/- - - 9/- - 0 9"},
		{"set r0 5/bz r1 4/add r2 r0 r0/jmp 1/st r2 r0 0", "- - - -/5 - - -/5 - - -/5 - 10 -/5 - - -/5 - - -"},
		{"set r0 0/set r1 7/mul r0 r0 r1/bz r2 2", "- - - -/0 - - -/0 7 - -/0 7 - -/0 7 - -"},
		{"set r0 0/set r1 1/add r0 r0 r1/bz r2 2", "- - - -/0 - - -/- 1 - -/- 1 - -/- 1 - -"},
		{"set r0 1/jmp 3/jmp 3/bz r1 2", "- - - -/1 - - -/1 - - -/1 - - -/1 - - -"},
		{"set r0 1/set r1 1/set r2 1/mul r2 r1 r1/mul r1 r0 r0/ld r0 r3 0/jmp 3", "- - - -/1 - - -/1 1 - -/- - - -/- - - -/- - - -/- - - -/x"},
		{"set r0 4/set r1 4/bz r2 6/lt r3 r0 r1/add r0 r1 r3/jmp 2/hlt", "- - - -/4 - - -/4 4 - -/4 4 - -/4 4 - 0/4 4 - 0/4 4 - -/x"},
	} {
		if rows := rowsText(impl.KnownAt(codeOf(t, c[0]))); rows != c[1] {
			t.Errorf("KnownAt %q = %q, not %q", c[0], rows, c[1])
		}
	}
}

// checkMade fails if a function does not make the second one of two programs of the first one.
func checkMade(t *testing.T, name string, made func(code []impl.Instr) []impl.Instr, pairs [][2]string) {
	t.Helper()
	for _, pair := range pairs {
		if line := lineOf(made(codeOf(t, pair[0]))); line != pair[1] {
			t.Errorf("%s %q = %q, not %q", name, pair[0], line, pair[1])
		}
	}
}

func TestJumpsThatAreKnown(t *testing.T) {
	checkMade(t, "FoldCode", impl.FoldCode, [][2]string{
		{"set r0 2/set r1 3/sub r2 r0 r1/mul r3 r2 r2/lt r1 r1 r0", "set r0 2/set r1 3/set r2 255/set r3 1/set r1 0"},
		{"set r0 0/bz r0 3/hlt/hlt", "set r0 0/jmp 3/hlt/hlt"},
		{"set r0 1/bz r0 3/hlt/hlt", "set r0 1/jmp 2/hlt/hlt"},
		{"set r3 255/bz r3 0", "set r3 255/jmp 2"},
		{"set r3 0/bz r3 1", "set r3 0/jmp 1"},
		{"set r3 1/bz r3 1", "set r3 1/jmp 2"},
		{"set r3 0/bz r3 0", "set r3 0/jmp 0"},
		{"set r2 0/bz r2 2", "set r2 0/jmp 2"},
		{"set r2 4/bz r2 2", "set r2 4/jmp 2"},
		{"set r1 128/add r1 r1 r1/bz r1 0/bz r1 4", "set r1 128/set r1 0/jmp 0/jmp 4"},
		// What is known only as one way is taken is not known in the first pass.
		{"set r0 0/bz r0 3/set r1 1/bz r1 0", "set r0 0/jmp 3/set r1 1/bz r1 0"},
		// What is not reached, and what is of the beginning, stays.
		{"hlt/set r0 1/add r0 r0 r0/bz r0 0", "hlt/set r0 1/add r0 r0 r0/bz r0 0"},
		{"bz r0 0/sub r0 r0 r0/bz r0 1", "bz r0 0/sub r0 r0 r0/bz r0 1"},
		{"set r0 0/mul r1 r0 r2/mul r1 r2 r0/lt r1 r2 r0/bz r1 0", "set r0 0/mul r1 r0 r2/mul r1 r2 r0/lt r1 r2 r0/bz r1 0"},
		{"set r0 1/ld r1 r0 3/st r0 r0 1/jmp 4/hlt", "set r0 1/ld r1 r0 3/st r0 r0 1/jmp 4/hlt"},
	})
	size := 40
	code := slices.Repeat([]impl.Instr{{Op: "set", D: 2, K: 1}}, size)
	code[size-1] = impl.Instr{Op: "bz", A: 2, K: 0}
	if folded := impl.FoldCode(code); len(folded) != size || folded[size-1] != (impl.Instr{Op: "jmp", K: size}) {
		t.Errorf("FoldCode(%v) = %v", code, folded)
	}
}

func TestJumpsInCircles(t *testing.T) {
	checkMade(t, "SkipCode", impl.SkipCode, [][2]string{
		{"jmp 0", "jmp 0"},
		{"bz r1 0", "bz r1 0"},
		{"jmp 2/hlt/jmp 0", "jmp 2/hlt/jmp 0"},
		{"jmp 1/jmp 2/jmp 0", "jmp 0"},
		// A row that leads to a circle stays.
		{"bz r0 3/st r0 r0 0/hlt/jmp 5/hlt/jmp 5", "bz r0 3/st r0 r0 0/hlt/jmp 5/hlt/jmp 5"},
		{"bz r0 4/hlt/jmp 4/hlt/jmp 6/hlt/jmp 4", "bz r0 4/hlt/jmp 4/hlt/jmp 6/hlt/jmp 4"},
		// What leads to the circle behind it is left out, but never all of the circle.
		{"bz r0 1/jmp 1", "jmp 0"},
		{"jmp 1/bz r0 0", "bz r0 0"},
		{"bz r0 1/jmp 0", "bz r0 0/jmp 0"},
	})
	circle := make([]impl.Instr, 40)
	for i := range circle {
		circle[i] = impl.Instr{Op: "jmp", K: (i + 39) % 40}
	}
	if left := impl.SkipCode(circle); !sameCode(left, circle) {
		t.Errorf("SkipCode(%v) = %v", circle, left)
	}
	circle[0] = impl.Instr{Op: "bz", A: 3, K: 39}
	if left := impl.SkipCode(circle); len(left) != 40 || slices.ContainsFunc(left, func(c impl.Instr) bool { return c.K != 0 }) {
		t.Errorf("SkipCode(%v) = %v", circle, left)
	}
}

func TestRowsOfJumps(t *testing.T) {
	checkMade(t, "SkipCode", impl.SkipCode, [][2]string{
		{"bz r1 2/hlt/jmp 4/hlt/jmp 6/hlt/set r0 1", "bz r1 6/hlt/jmp 6/hlt/jmp 6/hlt/set r0 1"},
		{"bz r0 2/hlt/bz r1 1", "bz r0 2/hlt/bz r1 1"},
		{"jmp 2/hlt/jmp 1", "hlt/jmp 0"},
		{"jmp 3/hlt/jmp 1/jmp 2", "hlt/jmp 0/jmp 0"},
		// To the end, and to what is left behind it.
		{"bz r0 2/hlt/jmp 3", "bz r0 2/hlt"},
		{"jmp 1/jmp 2/jmp 3", "jmp 2/jmp 2"},
		{"jmp 1", ""},
		{"bz r3 1", ""},
		{"bz r2 1/st r0 r0 0", "st r0 r0 0"},
		{"bz r0 2/st r1 r1 0/jmp 3/st r2 r2 0", "bz r0 2/st r1 r1 0/st r2 r2 0"},
		{"jmp 2/hlt/bz r1 3/hlt", "jmp 2/hlt/hlt"},
		{"bz r0 3/jmp 2/jmp 3/st r1 r1 0/bz r0 0", "bz r0 2/jmp 2/st r1 r1 0/bz r0 0"},
		// What is not reached or not needed stays, but its jumps lead straight on.
		{"hlt/jmp 3/set r0 1/jmp 0", "hlt/jmp 0/set r0 1/jmp 0"},
		{"set r0 0/bz r0 3/hlt", "set r0 0/bz r0 3/hlt"},
	})
	for size := 3; size <= 40; size++ {
		up, down := make([]impl.Instr, size), make([]impl.Instr, size)
		for i := range size {
			up[i] = impl.Instr{Op: "jmp", K: i + 1}
			down[i] = impl.Instr{Op: "jmp", K: max(i-1, 0)}
		}
		if left := impl.SkipCode(up); !sameCode(left, slices.Repeat([]impl.Instr{{Op: "jmp", K: size - 1}}, size-1)) {
			t.Errorf("SkipCode(%v) = %v", up, left)
		}
		down[0] = impl.Instr{Op: "bz", K: size - 1}
		down[1] = impl.Instr{Op: "jmp", K: size}
		if left := impl.SkipCode(down); !sameCode(left, append([]impl.Instr{{Op: "bz", K: size - 1}}, slices.Repeat([]impl.Instr{{Op: "jmp", K: size - 1}}, size-2)...)) {
			t.Errorf("SkipCode(%v) = %v", down, left)
		}
	}
}

// P33: wherever a machine comes to, it has the numbers that are known there.
func TestWhatIsKnownIsSo(t *testing.T) {
	found, not := 0, 0
	for _, j := range strolls(t) {
		known := impl.KnownAt(j.code)
		if len(known) != len(j.code)+1 {
			t.Fatalf("KnownAt(%v) = %v", j.code, known)
		}
		m := j.m
		for range 100 {
			for r, n := range known[m.At] {
				if n >= 0 {
					found++
				} else {
					not++
				}
				if len(known[m.At]) != 4 || n < -1 || n >= 0 && n != m.Regs[r] {
					t.Fatalf("KnownAt(%v) = %v, but %v comes from %v", j.code, known, m, j.m)
				}
			}
			next, ok := impl.StepMachine(j.code, m)
			if !ok {
				break
			}
			m = next
		}
	}
	if found < 10000 || not < 10000 {
		t.Errorf("%d are known, and %d are not", found, not)
	}
}

// P33: there is a row of -2 just where nothing leads.
func TestKnownWhereReached(t *testing.T) {
	for _, code := range tellingCodes(t) {
		there := impl.ReachOf(code)
		for i, row := range impl.KnownAt(code) {
			if slices.Equal(row, []int{-2, -2, -2, -2}) == there[i] || slices.Contains(row, -2) == there[i] {
				t.Fatalf("KnownAt(%v) = %v", code, impl.KnownAt(code))
			}
		}
	}
}

// P34: a folded program does the same, step by step, and nothing that it knew is worked out.
func TestWhatIsKnownMayBeTold(t *testing.T) {
	told := 0
	for _, j := range strolls(t) {
		folded := impl.FoldCode(j.code)
		if !impl.ValidCode(folded) || len(folded) != len(j.code) {
			t.Fatalf("FoldCode(%v) = %v", j.code, folded)
		}
		m, n := j.m, j.m
		for range 100 {
			if at := m.At; at < len(folded) && folded[at] != j.code[at] {
				told++
			}
			next, ok := impl.StepMachine(j.code, m)
			same, okSame := impl.StepMachine(folded, n)
			if ok != okSame || !sameMachine(next, same) {
				t.Fatalf("FoldCode(%v) = %v, and behind %v is %v, not %v", j.code, folded, m, same, next)
			}
			if !ok {
				break
			}
			m, n = next, same
		}
		for _, fuel := range []int{0, 1, 7, 300} {
			end, steps, done := impl.RunMachine(j.code, j.m, fuel)
			endFolded, stepsFolded, doneFolded := impl.RunMachine(folded, j.m, fuel)
			if !sameMachine(end, endFolded) || steps != stepsFolded || done != doneFolded {
				t.Fatalf("FoldCode(%v) = %v, which leaves %v, not %v", j.code, folded, endFolded, end)
			}
		}
	}
	if told < 10000 {
		t.Errorf("%d steps are told", told)
	}
}

// P35: a program whose jumps lead straight on leaves all as it was left, in no more steps, and does not end if the other one does not.
func TestJumpsLeadStraightOn(t *testing.T) {
	fewer, endless := 0, 0
	for _, j := range strolls(t) {
		left := impl.SkipCode(j.code)
		checkLeft(t, j, left)
		end, steps, done := impl.RunMachine(j.code, j.m, 300)
		endLeft, stepsLeft, doneLeft := impl.RunMachine(left, j.m, 300)
		if done && (stepsLeft > steps || !slices.Equal(end.Regs, endLeft.Regs) || !slices.Equal(end.Mem, endLeft.Mem)) {
			t.Fatalf("SkipCode(%v) = %v, which leaves %v, not %v", j.code, left, endLeft, end)
		}
		if done && stepsLeft < steps {
			fewer++
		}
		if !done && !doneLeft {
			endless++
		}
		for i, c := range left {
			if (c.Op == "bz" || c.Op == "jmp") && c.K == i+1 && sameCode(left, j.code) {
				t.Fatalf("SkipCode(%v) leaves %d", j.code, i)
			}
		}
	}
	if fewer < 1000 || endless < 1000 {
		t.Errorf("%d programs do fewer steps, and %d do not end", fewer, endless)
	}
}

// P36: a better program leaves the memory so, in no more steps, and no pass makes it another one.
func TestBetterProgramsAreBest(t *testing.T) {
	passes := []struct {
		name string
		made func(code []impl.Instr) []impl.Instr
	}{{"BetterCode", impl.BetterCode}, {"FoldCode", impl.FoldCode}, {"SkipCode", impl.SkipCode}, {"ShrinkCode", impl.ShrinkCode}, {"DropDead", impl.DropDead}}
	shorter := 0
	for _, j := range strolls(t) {
		best := impl.BetterCode(j.code)
		checkLeft(t, j, best)
		for _, pass := range passes {
			if left := pass.made(best); !sameCode(left, best) {
				t.Fatalf("BetterCode(%v) = %v, of which %s makes %v", j.code, best, pass.name, left)
			}
		}
		if len(best) < len(j.code) && len(storesOf(j, best)) > 0 {
			shorter++
		}
	}
	if shorter < 500 {
		t.Errorf("%d programs are shorter", shorter)
	}
}

func TestBetterPrograms(t *testing.T) {
	checkMade(t, "BetterCode", impl.BetterCode, [][2]string{
		{"hlt", "hlt"},
		{"jmp 0", "jmp 0"},
		{"jmp 1/jmp 0", "jmp 0"},
		{"jmp 2/jmp 0/jmp 1", "jmp 2/jmp 0/jmp 1"},
		{"set r0 1/bz r0 0", ""},
		{"set r0 0/bz r0 0", "jmp 0"},
		{"set r0 0/bz r0 3/set r1 1/st r1 r0 0", "set r0 0/st r1 r0 0"},
		{"set r0 0/st r0 r0 0/bz r0 1/st r0 r0 1", "set r0 0/st r0 r0 0/jmp 1"},
		{"set r0 0/st r0 r0 0/bz r0 0/st r0 r0 1", "set r0 0/st r0 r0 0/jmp 0"},
		{"bz r0 2/set r1 1/st r1 r0 0", "bz r0 2/set r1 1/st r1 r0 0"},
		{"sub r0 r0 r0/bz r0 3/st r0 r0 0", "sub r0 r0 r0/bz r0 3/st r0 r0 0"},
		// A bz of what is over dropped instructions alone is left out, and then what it read.
		{"ld r0 r1 0/bz r0 3/set r2 1/set r3 0/st r3 r3 0", "set r3 0/st r3 r3 0"},
		// Only as a way is taken out is more known, also if no instruction is.
		{"set r0 0/bz r1 4/set r2 1/jmp 6/set r2 0/bz r0 8/add r3 r2 r2/st r3 r2 0/st r2 r0 0", "set r0 0/bz r1 4/set r2 1/jmp 6/set r2 0/jmp 8/set r3 2/st r3 r2 0/st r2 r0 0"},
		{"set r0 0/set r1 0/bz r0 4/set r1 1/bz r1 6/st r0 r0 0/st r1 r0 1", "set r0 0/set r1 0/st r1 r0 1"},
	})
}

// A program is made better as often as it is another one behind it.
func TestManyPasses(t *testing.T) {
	chain := longChain()
	best, passes := bestBy(chain)
	if passes < 15 {
		t.Errorf("%d passes", passes)
	}
	for _, code := range [][]impl.Instr{best, impl.BetterCode(chain)} {
		if line := lineOf(code); line != "set r0 0/set r1 0/st r0 r1 3/st r1 r0 4" {
			t.Errorf("best is %q", line)
		}
	}
	// Each pass finds one bz that leads to the one behind it, the last one.
	row := make([]impl.Instr, 40)
	for i := range row {
		row[i] = impl.Instr{Op: "bz", A: i % 4, K: 40}
	}
	if left := impl.SkipCode(row); len(left) != 39 {
		t.Errorf("SkipCode leaves %d", len(left))
	}
	if left := impl.BetterCode(row); len(left) != 0 {
		t.Errorf("BetterCode leaves %v", left)
	}
	if impl.MaxPasses != 60 {
		t.Errorf("MaxPasses = %d", impl.MaxPasses)
	}
}

// Programs of sources are never worse, and compiled numbers are worked out.
func TestBetterSources(t *testing.T) {
	for _, s := range samples() {
		code, ok := impl.CompileSource(s.text)
		if !ok {
			t.Fatalf("CompileSource %q", s.text)
		}
		if best := impl.BetterCode(code); len(best) > len(code) {
			t.Errorf("BetterCode of %q is %v", s.text, best)
		}
	}
	code, _ := impl.CompileSource("while 0 { a = 1; } if 2 < 3 { b = 2 * (3 + 4); }")
	if line := lineOf(impl.BetterCode(code)); line != "set r0 14/set r3 0/st r0 r3 1" {
		t.Errorf("BetterCode = %q", line)
	}
}

// What is no program is not made better.
func TestNothingIsKnownOfOthers(t *testing.T) {
	for _, code := range append(wrongCodes(), []impl.Instr{{Op: "hlt"}, {Op: "nop"}}, []impl.Instr{{Op: "jmp", K: 2}}, []impl.Instr{{Op: "bz", K: 41}}, []impl.Instr{{Op: "jmp", A: 1}}) {
		b := betterOf(code)
		if len(b.known) != 0 || len(b.folded) != 0 || len(b.skipped) != 0 || len(b.best) != 0 {
			t.Errorf("%v is made %v", code, b)
		}
	}
}

// Programs that are given stay as they are, and what is returned is new each time, and each row of it.
func TestBetterOfItsOwn(t *testing.T) {
	for _, s := range []string{"set r0 0/bz r0 3/add r1 r0 r0/st r1 r0 0", "st r0 r0 0/bz r0 0/hlt", "jmp 0", "bz r0 3/st r0 r0 0/hlt/jmp 5/hlt/jmp 5", "jmp 1/jmp 2/hlt/set r0 2"} {
		code := append(codeOf(t, s), impl.Instr{Op: "hlt"})
		given := code[:len(code)-1]
		before := slices.Clone(code)
		b := betterOf(given)
		checkApart(t, b.known)
		spoil(b.known, nil)
		for i, made := range [][]impl.Instr{b.folded, b.skipped, b.best} {
			spoil(made, impl.Instr{Op: "x", K: i})
		}
		if !sameCode(code, before) {
			t.Errorf("the program that was given is now %v", code)
		}
		checkBetter(t, given)
	}
}
