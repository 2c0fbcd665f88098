package tests

import (
	"math"
	"slices"
	"strings"
	"testing"

	"loop.example/smallmachines/impl"
)

// passage is instructions that go through the pipe, whether each one jumps, and whether numbers are forwarded.
type passage struct {
	list    []impl.Instr
	jumps   []bool
	forward bool
}

// piped is all that the functions of chapter 8 are to return for a passage.
type piped struct {
	ticks          []int
	time           int
	table          [][]int
	bubbles, waits int
}

// listOf returns the instructions of texts with a / between two of them, which need not be a program.
func listOf(t *testing.T, s string) []impl.Instr {
	t.Helper()
	var list []impl.Instr
	for text := range strings.SplitSeq(s, "/") {
		c, ok := impl.ReadInstr(text)
		if !ok {
			t.Fatalf("ReadInstr(%q)", text)
		}
		list = append(list, c)
	}
	return list
}

// textOfList returns the texts of instructions with a / between two of them.
func textOfList(list []impl.Instr) string {
	var texts []string
	for _, c := range list {
		texts = append(texts, impl.ShowInstr(c))
	}
	return strings.Join(texts, "/")
}

// jumpsBy returns whether each one jumps, by a sign for each: j if it does.
func jumpsBy(signs string) []bool {
	var jumps []bool
	for _, sign := range signs {
		jumps = append(jumps, sign == 'j')
	}
	return jumps
}

// jumpsAll returns all rows of as many jumps, made or not.
func jumpsAll(size int) [][]bool {
	rows := [][]bool{nil}
	for range size {
		var longer [][]bool
		for _, row := range rows {
			longer = append(longer, append(slices.Clone(row), false), append(slices.Clone(row), true))
		}
		rows = longer
	}
	return rows
}

// isThereBy asks the last one of those that write a register how far it has come: it is behind the pipe, or just behind where its number is worked out or taken from memory.
func isThereBy(p passage, register string, writers []string, parts []int) bool {
	for j, writes := range slices.Backward(writers) {
		if writes == register {
			behind := 5
			if p.forward {
				behind = 3
				if p.list[j].Op == "ld" {
					behind = 4
				}
			}
			return parts[j] >= behind
		}
	}
	return true
}

// tableBy moves instructions through the pipe tick by tick, each one into its next part when it may.
func tableBy(p passage) [][]int {
	size := len(p.list)
	var writers []string
	var readers [][]string
	for _, c := range p.list {
		reads, writes := namesBy(c)
		writers = append(writers, writes)
		readers = append(readers, strings.Split(reads, "r")[1:])
		if reads == "" {
			readers[len(readers)-1] = nil
		}
	}
	// Those that are not read yet are in part 0, and those that have gone through in part 5.
	parts := make([]int, size)
	table := make([][]int, size)
	for tick := 0; size > 0; tick++ {
		for i := range size {
			moves := parts[i] > 0 && parts[i] < 5
			switch {
			case parts[i] == 0 && i == 0:
				moves = tick == 1
			case parts[i] == 0 && p.jumps[i-1]:
				moves = parts[i-1] == 4
			case parts[i] == 0:
				moves = parts[i-1] == 2
			case parts[i] == 1:
				for _, register := range readers[i] {
					moves = moves && isThereBy(p, "r"+register, writers[:i], parts[:i])
				}
			}
			if moves {
				parts[i]++
			} else if parts[i] == 0 {
				break
			}
		}
		if parts[size-1] == 5 {
			break
		}
		for i, part := range parts {
			table[i] = append(table[i], map[int]int{0: -1, 1: 1, 2: 2, 3: 3, 4: 4, 5: -1}[part])
		}
	}
	for _, row := range table {
		row[slices.Index(row, 1)-1] = 0
	}
	return table
}

// pipedBy counts all in the table.
func pipedBy(p passage) piped {
	all := piped{table: tableBy(p)}
	for i, row := range all.table {
		worked, read := slices.Index(row, 2), slices.Index(row, 1)
		if i > 0 {
			all.bubbles += read - all.ticks[i-1]
		}
		all.waits += worked - read - 1
		all.ticks = append(all.ticks, worked)
		all.time = len(row)
	}
	return all
}

// pipedOf returns all that the functions of chapter 8 return for a passage.
func pipedOf(p passage) piped {
	all := piped{ticks: impl.PipeTicks(p.list, p.jumps, p.forward), time: impl.PipeTime(p.list, p.jumps, p.forward), table: impl.PipeTable(p.list, p.jumps, p.forward)}
	all.bubbles, all.waits = impl.StallsOf(p.list, p.jumps, p.forward)
	return all
}

func checkPiped(t *testing.T, p passage, want piped) {
	t.Helper()
	got := pipedOf(p)
	name := textOfList(p.list)
	if !slices.Equal(got.ticks, want.ticks) {
		t.Fatalf("PipeTicks(%q, %v, %v) = %v, not %v", name, p.jumps, p.forward, got.ticks, want.ticks)
	}
	if got.time != want.time {
		t.Fatalf("PipeTime(%q, %v, %v) = %d, not %d", name, p.jumps, p.forward, got.time, want.time)
	}
	if !sameRows(got.table, want.table) {
		t.Fatalf("PipeTable(%q, %v, %v) = %v, not %v", name, p.jumps, p.forward, got.table, want.table)
	}
	if got.bubbles != want.bubbles || got.waits != want.waits {
		t.Fatalf("StallsOf(%q, %v, %v) = %d, %d, not %d, %d", name, p.jumps, p.forward, got.bubbles, got.waits, want.bubbles, want.waits)
	}
}

// someJumps returns whether each one of as many jumps: one in so many does.
func someJumps(g *lcg, size, one int) []bool {
	var jumps []bool
	for range size {
		jumps = append(jumps, g.below(one) == 0)
	}
	return jumps
}

// somePassages returns passages of all sizes, some of them steps of programs.
func somePassages(t *testing.T) []passage {
	g := lcg(80)
	var all []passage
	both := func(list []impl.Instr, jumps []bool) {
		all = append(all, passage{list, jumps, false}, passage{list, jumps, true})
	}
	sizes := []int{50, 100, 150, 200, 299, 300}
	for size := range 24 {
		sizes = append(sizes, slices.Repeat([]int{size}, 20)...)
	}
	for _, size := range sizes {
		list := someBlock(&g, size)
		for i := range list {
			switch g.below(9) {
			case 0:
				list[i] = impl.Instr{Op: "bz", A: g.below(4), K: g.below(41)}
			case 1:
				list[i] = impl.Instr{Op: "jmp", K: g.below(41)}
			}
		}
		for _, one := range []int{1, 2, 9, 1000} {
			both(list, someJumps(&g, size, one))
		}
	}
	for i, j := range walks(t) {
		if i%20 == 0 {
			list, jumps := impl.StepsOf(j.code, j.m, 10+i%291)
			both(list, jumps)
		}
	}
	return all
}

// shortPassages does something with all passages of few instructions of some.
func shortPassages(t *testing.T, longest int, s string, do func(p passage)) {
	for size := range longest + 1 {
		for _, list := range rowsOf(listOf(t, s), size) {
			for _, jumps := range jumpsAll(size) {
				do(passage{list, jumps, false})
				do(passage{list, jumps, true})
			}
		}
	}
}

// P55: the steps are those of the trace, and of them all jmp jump, and each bz as JumpsOf tells.
func TestStepsOfTraces(t *testing.T) {
	for n, j := range slices.Concat(walks(t), journeys(t)) {
		for _, fuel := range []int{0, 1, n % 301, 300} {
			list, jumps := impl.StepsOf(j.code, j.m, fuel)
			trace, told := impl.TraceOf(j.code, j.m, fuel), impl.JumpsOf(j.code, j.m, fuel)
			if len(list) != len(trace) || len(jumps) != len(trace) {
				t.Fatalf("StepsOf(%v, %v, %d) has %d and %d steps, not %d", j.code, j.m, fuel, len(list), len(jumps), len(trace))
			}
			for i, at := range trace {
				want := list[i].Op == "jmp"
				if list[i].Op == "bz" {
					want, told = told[0], told[1:]
				}
				if list[i] != j.code[at] || jumps[i] != want {
					t.Fatalf("step %d of %v, %v is %v, %v", i, j.code, j.m, list[i], jumps[i])
				}
			}
		}
	}
}

// The steps are also those of runs that are worked out here.
func TestStepsOfRuns(t *testing.T) {
	for n, j := range journeys(t) {
		fuel := []int{300, n % 301}[n%2]
		want := runBy(j.code, j.m, fuel)
		list, jumps := impl.StepsOf(j.code, j.m, fuel)
		if len(list) != want.steps || len(jumps) != want.steps {
			t.Fatalf("StepsOf(%v, %v, %d) has %d and %d steps, not %d", j.code, j.m, fuel, len(list), len(jumps), want.steps)
		}
		for i, at := range want.trace {
			if list[i] != j.code[at] || list[i].Op == "hlt" {
				t.Fatalf("step %d of %v, %v is %v", i, j.code, j.m, list[i])
			}
		}
		var told []bool
		for i, c := range list {
			if c.Op == "bz" {
				told = append(told, jumps[i])
			}
		}
		if !slices.Equal(told, want.jumps) {
			t.Fatalf("jumps of %v, %v are %v, not %v", j.code, j.m, told, want.jumps)
		}
	}
}

// Steps worked out by hand: what halts is not stepped, and jumps to the next instruction, to itself and to the end jump too.
func TestStepsByHand(t *testing.T) {
	for _, row := range []struct {
		code         string
		fuel         int
		steps, signs string
	}{
		{"hlt", 300, "", ""},
		{"set r0 1/hlt/set r0 2", 300, "set r0 1", "-"},
		{"set r0 1/bz r1 3/hlt/jmp 2", 300, "set r0 1/bz r1 3/jmp 2", "-jj"},
		{"set r0 1/bz r0 3/hlt/jmp 2", 300, "set r0 1/bz r0 3", "--"},
		{"jmp 1", 300, "jmp 1", "j"},
		{"bz r3 1", 300, "bz r3 1", "j"},
		{"set r3 1/bz r3 2", 300, "set r3 1/bz r3 2", "--"},
		{"jmp 1/bz r0 2/set r0 0", 300, "jmp 1/bz r0 2/set r0 0", "jj-"},
		{"jmp 0", 3, "jmp 0/jmp 0/jmp 0", "jjj"},
		{"bz r0 0", 2, "bz r0 0/bz r0 0", "jj"},
		{"set r2 2/set r1 1/sub r2 r2 r1/bz r2 5/jmp 2", 300, "set r2 2/set r1 1/sub r2 r2 r1/bz r2 5/jmp 2/sub r2 r2 r1/bz r2 5", "----j-j"},
		{"set r2 2/set r1 1/sub r2 r2 r1/bz r2 5/jmp 2", 4, "set r2 2/set r1 1/sub r2 r2 r1/bz r2 5", "----"},
		{"set r0 0/jmp 2", 0, "", ""},
	} {
		list, jumps := impl.StepsOf(codeOf(t, row.code), impl.NewMachine(), row.fuel)
		if textOfList(list) != row.steps || !slices.Equal(jumps, jumpsBy(row.signs)) {
			t.Errorf("StepsOf %q = %q, %v", row.code, textOfList(list), jumps)
		}
	}
}

// What is no program, no machine or no fuel has no steps, and a program that has none has none either.
func TestNoSteps(t *testing.T) {
	check := func(code []impl.Instr, m impl.Machine, fuel int) {
		t.Helper()
		if list, jumps := impl.StepsOf(code, m, fuel); len(list)+len(jumps) != 0 {
			t.Errorf("StepsOf(%v, %v, %d) = %v, %v", code, m, fuel, list, jumps)
		}
	}
	good, m := codeOf(t, "bz r0 1/jmp 1"), impl.NewMachine()
	for _, fuel := range []int{-1, 301, math.MaxInt, math.MinInt} {
		check(good, m, fuel)
	}
	for _, wrong := range wrongMachines() {
		check(good, wrong, 5)
		check(nil, wrong, 5)
	}
	for _, wrong := range wrongCodes() {
		check(wrong, m, 5)
	}
	check([]impl.Instr{{Op: "set"}, {Op: "nop"}}, m, 1)
	check(nil, m, 300)
	check([]impl.Instr{}, m, 0)
	check(good, machineAt(2, [4]int{}, [8]int{}), 300)
	check(good, machineAt(40, [4]int{}, [8]int{}), 300)
}

// All of chapter 8 as moved here tick by tick: all passages of few instructions, and some of all sizes.
func TestPipesOfAllKinds(t *testing.T) {
	check := func(p passage) { checkPiped(t, p, pipedBy(p)) }
	shortPassages(t, 2, "set r0 1/set r1 255/add r0 r0 r1/sub r1 r2 r0/mul r1 r1 r1/lt r3 r0 r3/ld r0 r1 0/ld r1 r0 7/ld r2 r2 2/st r0 r1 0/st r1 r2 3/bz r0 0/bz r2 40/jmp 0/jmp 40", check)
	shortPassages(t, 3, "set r0 1/add r1 r0 r2/ld r0 r0 0/ld r2 r1 5/st r0 r2 1/bz r1 7/jmp 1", check)
	shortPassages(t, 5, "set r0 1/add r1 r0 r1/ld r0 r1 0", check)
	for _, p := range somePassages(t) {
		check(p)
	}
	if impl.MaxTrace != 300 || impl.Bubble != 2 {
		t.Errorf("MaxTrace = %d, Bubble = %d", impl.MaxTrace, impl.Bubble)
	}
}

// All pairs of instructions, with few of the numbers of set and of the places of jumps, wait or not as they are read and written.
func TestPipesOfAllPairs(t *testing.T) {
	pairs := straightInstrs()
	for _, e := range allEntries() {
		if e.c.Op == "bz" && e.c.K%20 == 0 || e.c.Op == "jmp" && e.c.K%20 == 0 {
			pairs = append(pairs, e.c)
		}
	}
	jumps := make([]bool, 2)
	for _, a := range pairs {
		_, writes := namesBy(a)
		for _, b := range pairs {
			reads, _ := namesBy(b)
			plain, forward := 3, 3
			if writes != "" && strings.Contains(reads, writes) {
				plain = 5
				if a.Op == "ld" {
					forward = 4
				}
			}
			list := []impl.Instr{a, b}
			if got := impl.PipeTicks(list, jumps, false); !slices.Equal(got, []int{2, plain}) {
				t.Fatalf("PipeTicks of %q = %v", textOfList(list), got)
			}
			if got := impl.PipeTicks(list, jumps, true); !slices.Equal(got, []int{2, forward}) {
				t.Fatalf("PipeTicks of %q with forward = %v", textOfList(list), got)
			}
		}
	}
}

// byHand is a passage with its ticks, without and with forward, and how many are lost behind jumps, and by waiting without and with forward.
type byHand struct {
	list, signs                  string
	plain, forward               []int
	bubbles, waits, waitsForward int
}

func checkByHand(t *testing.T, rows []byHand) {
	t.Helper()
	for _, row := range rows {
		list, jumps := listOf(t, row.list), jumpsBy(row.signs)
		for _, forward := range []bool{false, true} {
			ticks, waits := row.plain, row.waits
			if forward {
				ticks, waits = row.forward, row.waitsForward
			}
			got := pipedOf(passage{list, jumps, forward})
			if !slices.Equal(got.ticks, ticks) || got.time != ticks[len(ticks)-1]+3 || got.bubbles != row.bubbles || got.waits != waits {
				t.Errorf("%q, %q, %v is piped as %v", row.list, row.signs, forward, got)
			}
		}
	}
}

// Waits worked out by hand: of how many ahead, of the last one that writes, of all that is read, and of nothing that is not.
func TestPipesByHand(t *testing.T) {
	checkByHand(t, []byHand{
		{"set r0 1", "-", []int{2}, []int{2}, 0, 0, 0},
		{"set r0 1/add r1 r0 r0", "--", []int{2, 5}, []int{2, 3}, 0, 2, 0},
		{"set r0 1/set r1 1/add r1 r0 r0", "---", []int{2, 3, 5}, []int{2, 3, 4}, 0, 1, 0},
		{"set r0 1/set r1 1/set r1 1/add r1 r0 r0", "----", []int{2, 3, 4, 5}, []int{2, 3, 4, 5}, 0, 0, 0},
		{"set r0 1/set r0 2/set r1 1/add r2 r0 r0", "----", []int{2, 3, 4, 6}, []int{2, 3, 4, 5}, 0, 1, 0},
		{"set r0 1/set r1 1/add r2 r0 r1", "---", []int{2, 3, 6}, []int{2, 3, 4}, 0, 2, 0},
		{"set r1 1/set r0 1/add r2 r0 r1", "---", []int{2, 3, 6}, []int{2, 3, 4}, 0, 2, 0},
		{"add r0 r0 r0/mul r0 r0 r0/lt r0 r0 r0", "---", []int{2, 5, 8}, []int{2, 3, 4}, 0, 4, 0},
		{"set r0 1/add r1 r0 r0/set r3 1/sub r2 r0 r1", "----", []int{2, 5, 6, 8}, []int{2, 3, 4, 5}, 0, 3, 0},
		{"set r2 1/st r2 r3 0", "--", []int{2, 5}, []int{2, 3}, 0, 2, 0},
		{"set r3 1/st r2 r3 0", "--", []int{2, 5}, []int{2, 3}, 0, 2, 0},
		{"set r3 1/bz r3 0", "--", []int{2, 5}, []int{2, 3}, 0, 2, 0},
		{"st r1 r0 0/ld r1 r0 0", "--", []int{2, 3}, []int{2, 3}, 0, 0, 0},
		{"st r0 r0 0/add r0 r0 r0", "--", []int{2, 3}, []int{2, 3}, 0, 0, 0},
		{"bz r0 0/add r0 r0 r0", "--", []int{2, 3}, []int{2, 3}, 0, 0, 0},
		{"jmp 0/add r0 r0 r0", "--", []int{2, 3}, []int{2, 3}, 0, 0, 0},
		{"set r0 1/set r0 2", "--", []int{2, 3}, []int{2, 3}, 0, 0, 0},
		{"set r0 1/ld r1 r2 0", "--", []int{2, 3}, []int{2, 3}, 0, 0, 0},
		{"set r0 1/jmp 0", "--", []int{2, 3}, []int{2, 3}, 0, 0, 0},
		{"add r1 r0 r0/set r0 1", "--", []int{2, 3}, []int{2, 3}, 0, 0, 0},
	})
}

// Loads ahead of what needs them are waited for with forward too, but only right behind them, and only if nothing else writes the register.
func TestLoadsAheadOfWhatNeedsThem(t *testing.T) {
	checkByHand(t, []byHand{
		{"ld r0 r1 0/add r2 r0 r0", "--", []int{2, 5}, []int{2, 4}, 0, 2, 1},
		{"ld r0 r1 0/add r2 r3 r0", "--", []int{2, 5}, []int{2, 4}, 0, 2, 1},
		{"ld r0 r1 0/st r0 r1 0", "--", []int{2, 5}, []int{2, 4}, 0, 2, 1},
		{"ld r1 r1 0/st r0 r1 0", "--", []int{2, 5}, []int{2, 4}, 0, 2, 1},
		{"ld r0 r1 0/bz r0 0", "--", []int{2, 5}, []int{2, 4}, 0, 2, 1},
		{"ld r0 r0 0/ld r0 r0 0/ld r0 r0 0", "---", []int{2, 5, 8}, []int{2, 4, 6}, 0, 4, 2},
		{"ld r0 r1 0/set r3 1/add r2 r0 r0", "---", []int{2, 3, 5}, []int{2, 3, 4}, 0, 1, 0},
		{"ld r0 r1 0/ld r1 r3 0/add r2 r0 r1", "---", []int{2, 3, 6}, []int{2, 3, 5}, 0, 2, 1},
		{"ld r0 r1 0/ld r3 r3 0/add r2 r0 r1", "---", []int{2, 3, 5}, []int{2, 3, 4}, 0, 1, 0},
		{"ld r0 r1 0/set r0 1/add r2 r0 r0", "---", []int{2, 3, 6}, []int{2, 3, 4}, 0, 2, 0},
		{"set r0 1/ld r0 r1 0/add r2 r0 r0", "---", []int{2, 3, 6}, []int{2, 3, 5}, 0, 2, 1},
		{"ld r0 r1 0/ld r0 r0 1/add r2 r0 r0", "---", []int{2, 5, 8}, []int{2, 4, 6}, 0, 4, 2},
		{"ld r0 r1 0/set r1 1/set r2 2/add r2 r0 r0", "----", []int{2, 3, 4, 5}, []int{2, 3, 4, 5}, 0, 0, 0},
		{"ld r0 r1 0/jmp 9/add r2 r0 r0", "---", []int{2, 3, 5}, []int{2, 3, 4}, 0, 1, 0},
	})
}

// Jumps one behind the other cost as much each, but not the last instruction, and what waits anyway is not paid twice.
func TestJumpsOneBehindTheOther(t *testing.T) {
	checkByHand(t, []byHand{
		{"jmp 0", "j", []int{2}, []int{2}, 0, 0, 0},
		{"jmp 1/jmp 2", "jj", []int{2, 5}, []int{2, 5}, 2, 0, 0},
		{"jmp 1/jmp 2", "-j", []int{2, 3}, []int{2, 3}, 0, 0, 0},
		{"jmp 1/jmp 2/jmp 3", "jjj", []int{2, 5, 8}, []int{2, 5, 8}, 4, 0, 0},
		{"bz r0 1/bz r0 2/bz r0 3/set r0 0", "jjj-", []int{2, 5, 8, 11}, []int{2, 5, 8, 11}, 6, 0, 0},
		{"bz r0 1/bz r0 2/bz r0 3/set r0 0", "-j--", []int{2, 3, 6, 7}, []int{2, 3, 6, 7}, 2, 0, 0},
		{"set r0 1/set r1 1", "j-", []int{2, 5}, []int{2, 5}, 2, 0, 0},
		{"set r0 1/add r1 r0 r0", "j-", []int{2, 5}, []int{2, 5}, 2, 0, 0},
		{"ld r0 r1 0/add r1 r0 r0", "j-", []int{2, 5}, []int{2, 5}, 2, 0, 0},
		{"ld r0 r1 0/jmp 7/add r1 r0 r0", "-j-", []int{2, 3, 6}, []int{2, 3, 6}, 2, 0, 0},
		{"ld r0 r1 0/bz r0 7/add r1 r0 r0", "-j-", []int{2, 5, 8}, []int{2, 4, 7}, 2, 2, 1},
		{"jmp 1/ld r0 r1 0/bz r0 7/jmp 9", "j-jj", []int{2, 5, 8, 11}, []int{2, 5, 7, 10}, 4, 2, 1},
	})
}

// P56: ticks are ascending from 2 on, with forward never later, and Bubble later behind a jump.
func TestPipesGoOnInOrder(t *testing.T) {
	for _, p := range somePassages(t) {
		ticks, soon := impl.PipeTicks(p.list, p.jumps, false), impl.PipeTicks(p.list, p.jumps, true)
		if len(ticks) != len(p.list) || len(soon) != len(p.list) {
			t.Fatalf("%d and %d ticks of %d instructions", len(ticks), len(soon), len(p.list))
		}
		for i := range p.list {
			least := 2
			leastSoon := 2
			if i > 0 {
				least, leastSoon = ticks[i-1]+1, soon[i-1]+1
				if p.jumps[i-1] {
					least, leastSoon = least+impl.Bubble, leastSoon+impl.Bubble
				}
			}
			if ticks[i] < least || soon[i] < leastSoon || soon[i] > ticks[i] || i == 0 && ticks[i] != 2 {
				t.Fatalf("tick %d of %q, %v: %d, and %d with forward", i, textOfList(p.list), p.jumps, ticks[i], soon[i])
			}
		}
	}
}

// P57: a pipe takes a tick for each instruction and 4 more at least, with forward no more, and less for the first ones alone.
func TestPipesTakeATickForEach(t *testing.T) {
	for _, p := range somePassages(t) {
		size := len(p.list)
		time := impl.PipeTime(p.list, p.jumps, p.forward)
		if size == 0 {
			continue
		}
		if time < size+4 || impl.PipeTime(p.list, p.jumps, true) > impl.PipeTime(p.list, p.jumps, false) {
			t.Fatalf("PipeTime of %q, %v = %d", textOfList(p.list), p.jumps, time)
		}
		for _, first := range []int{size - 1, size / 2, min(1, size-1), 0} {
			if part := impl.PipeTime(p.list[:first], p.jumps[:first], p.forward); part >= time {
				t.Fatalf("PipeTime of %q, %v = %d, but %d of the first %d", textOfList(p.list), p.jumps, time, part, first)
			}
		}
	}
	// Instructions that neither wait nor jump take just as many.
	for size := 1; size <= 300; size++ {
		list, jumps := slices.Repeat(listOf(t, "set r1 7"), size), make([]bool, size)
		for _, forward := range []bool{false, true} {
			if time := impl.PipeTime(list, jumps, forward); time != size+4 {
				t.Errorf("PipeTime of %d instructions = %d", size, time)
			}
		}
	}
}

// P58: at no tick two instructions are in the same part, and each goes through all five parts in order, without a gap.
func TestNoTwoInOnePart(t *testing.T) {
	for _, p := range somePassages(t) {
		table := impl.PipeTable(p.list, p.jumps, p.forward)
		if len(table) != len(p.list) {
			t.Fatalf("%d rows of %d instructions", len(table), len(p.list))
		}
		time := impl.PipeTime(p.list, p.jumps, p.forward)
		in := make([][5]bool, time)
		for _, row := range table {
			if len(row) != time {
				t.Fatalf("row of %d ticks of %q", len(row), textOfList(p.list))
			}
			var signs strings.Builder
			for tick, part := range row {
				signs.WriteByte("-01234"[part+1])
				if part < 0 {
					continue
				}
				if in[tick][part] {
					t.Fatalf("two are in part %d at tick %d of %q", part, tick, textOfList(p.list))
				}
				in[tick][part] = true
			}
			parts := strings.Trim(signs.String(), "-")
			if !strings.HasPrefix(parts, "01") || !strings.HasSuffix(parts, "1234") || strings.Trim(parts[1:len(parts)-3], "1") != "" {
				t.Fatalf("%q goes through %s", textOfList(p.list), signs.String())
			}
		}
	}
}

// Tables worked out by hand: what waits is taken one tick ahead of when it is read, also behind a jump, and is read until it is worked out.
func TestTablesByHand(t *testing.T) {
	for _, row := range []struct {
		list, signs string
		forward     bool
		want        string
	}{
		{"set r0 1", "j", false, "01234"},
		{"jmp 1/jmp 2", "jj", true, "01234---/---01234"},
		{"set r0 1/set r1 1/set r2 1", "---", false, "01234--/-01234-/--01234"},
		{"set r0 1/add r1 r0 r0/set r2 1", "---", false, "01234----/-0111234-/----01234"},
		{"ld r0 r1 0/add r1 r0 r0/set r2 1", "---", true, "01234---/-011234-/---01234"},
		{"ld r0 r1 0/bz r0 9/add r2 r0 r0", "-j-", false, "01234------/-0111234---/------01234"},
		{"set r1 1/jmp 9/add r2 r1 r1", "-j-", true, "01234----/-01234---/----01234"},
		{"set r1 1/ld r3 r3 0/ld r2 r3 0/st r1 r2 0", "----", false, "01234-------/-01234------/--0111234---/-----0111234"},
	} {
		var lines []string
		for _, parts := range impl.PipeTable(listOf(t, row.list), jumpsBy(row.signs), row.forward) {
			var line []byte
			for _, part := range parts {
				line = append(line, "-01234"[part+1])
			}
			lines = append(lines, string(line))
		}
		if got := strings.Join(lines, "/"); got != row.want {
			t.Errorf("PipeTable(%q, %q, %v) = %s, not %s", row.list, row.signs, row.forward, got, row.want)
		}
	}
}

// P59: lost ticks are at least 0, and with as many as there are instructions and 4 they are the time; those behind jumps are Bubble each, but for the last instruction.
func TestLostTicks(t *testing.T) {
	for _, p := range somePassages(t) {
		if len(p.list) == 0 {
			continue
		}
		behind, waits := impl.StallsOf(p.list, p.jumps, p.forward)
		time := impl.PipeTime(p.list, p.jumps, p.forward)
		if behind < 0 || waits < 0 || behind+waits+len(p.list)+4 != time {
			t.Fatalf("StallsOf %q, %v = %d, %d of %d", textOfList(p.list), p.jumps, behind, waits, time)
		}
		jumped := 0
		for _, jumps := range p.jumps[:len(p.jumps)-1] {
			if jumps {
				jumped++
			}
		}
		if behind != 2*jumped {
			t.Fatalf("StallsOf %q, %v = %d, %d with %d jumps", textOfList(p.list), p.jumps, behind, waits, jumped)
		}
	}
}

// Pipes without instructions take no time and lose none.
func TestPipesWithoutInstructions(t *testing.T) {
	for _, forward := range []bool{false, true} {
		checkPiped(t, passage{nil, nil, forward}, piped{})
		checkPiped(t, passage{[]impl.Instr{}, []bool{}, forward}, piped{})
		checkPiped(t, passage{make([]impl.Instr, 0, 3), make([]bool, 0, 3), forward}, piped{})
	}
}

// A pipe takes MaxTrace instructions, however late the last one is.
func TestLongestPipes(t *testing.T) {
	list := slices.Repeat(listOf(t, "ld r0 r0 0"), 300)
	still, jumps := make([]bool, 300), slices.Repeat([]bool{true}, 300)
	for _, row := range []struct {
		p                    passage
		time, bubbles, waits int
	}{
		{passage{list, still, false}, 902, 0, 598},
		{passage{list, still, true}, 603, 0, 299},
		{passage{list, jumps, false}, 902, 598, 0},
		{passage{list, jumps, true}, 902, 598, 0},
	} {
		got := pipedOf(row.p)
		if len(got.ticks) != 300 || len(got.table) != 300 || len(got.table[299]) != row.time || got.time != row.time || got.bubbles != row.bubbles || got.waits != row.waits {
			t.Errorf("300 loads take %d ticks, %d and %d lost", got.time, got.bubbles, got.waits)
		}
	}
}

func checkNoPipe(t *testing.T, list []impl.Instr, jumps []bool) {
	t.Helper()
	for _, forward := range []bool{false, true} {
		got := pipedOf(passage{list, jumps, forward})
		if len(got.ticks)+len(got.table) != 0 || got.time != -1 || got.bubbles != -1 || got.waits != -1 {
			t.Fatalf("%d instructions with %d jumps are piped: %v", len(list), len(jumps), got)
		}
	}
}

// Too many instructions, halts and those that are not valid, anywhere among others, and too many or too few jumps are not piped.
func TestNoPipes(t *testing.T) {
	list := listOf(t, "ld r0 r1 0/jmp 40/bz r0 40/set r1 255/add r1 r0 r0")
	for size := range len(list) + 1 {
		for jumps := range 8 {
			if jumps != size {
				checkNoPipe(t, list[:size], make([]bool, jumps))
			}
		}
		for _, c := range []impl.Instr{{}, {Op: "hlt"}, {Op: "hlt", K: 1}, {Op: "nop"}, {Op: "jmp", K: 41}, {Op: "jmp", D: 1}, {Op: "bz", K: 41}, {Op: "bz", A: 4}, {Op: "set", D: 4}, {Op: "set", K: 256}, {Op: "set", D: -1}, {Op: "add", B: 4}, {Op: "ld", K: 8}, {Op: "st", K: -1}} {
			if size < len(list) {
				wrong := slices.Clone(list)
				wrong[size] = c
				checkNoPipe(t, wrong, make([]bool, len(wrong)))
			}
			checkNoPipe(t, slices.Insert(slices.Clone(list), size, c), make([]bool, len(list)+1))
		}
	}
	checkNoPipe(t, nil, []bool{false})
	checkNoPipe(t, nil, []bool{true})
	for _, size := range []int{301, 302, 1000} {
		long := slices.Repeat(listOf(t, "set r0 0"), size)
		checkNoPipe(t, long, make([]bool, size))
		checkNoPipe(t, long, make([]bool, 300))
		checkNoPipe(t, long[:300], make([]bool, size))
	}
	for _, wrong := range nearInstrs() {
		if !impl.ValidInstr(wrong) && wrong.D == 0 && wrong.A <= 3 {
			checkNoPipe(t, []impl.Instr{wrong}, []bool{false})
		}
	}
}

// What is given stays as it is, and what is returned is new each time, and each row of it.
func TestPipesOfTheirOwn(t *testing.T) {
	code := codeOf(t, "ld r0 r1 0/bz r0 3/hlt/add r2 r0 r0/jmp 0")
	m := machineAt(0, [4]int{3, 0, 0, 1}, [8]int{0, 9, 9, 9, 9, 9, 9, 9})
	before, at := slices.Clone(code), copyOf(m)
	for range 2 {
		steps, jumps := impl.StepsOf(code, m, 6)
		if textOfList(steps) != "ld r0 r1 0/bz r0 3/add r2 r0 r0/jmp 0/ld r0 r1 0/bz r0 3" || !slices.Equal(jumps, jumpsBy("-j-j-j")) {
			t.Fatalf("StepsOf = %v, %v", steps, jumps)
		}
		spoil(steps, impl.Instr{Op: "x"})
		spoil(jumps, true)
	}
	if !sameCode(code, before) || !sameMachine(m, at) {
		t.Errorf("what was given is now %v, %v", code, m)
	}
	for _, forward := range []bool{false, true} {
		list := append(listOf(t, "ld r0 r1 0/bz r0 3/add r2 r0 r0/jmp 0/ld r0 r1 0/bz r0 3"), impl.Instr{Op: "hlt"})
		jumps := jumpsBy("-j-j--j")
		p := passage{list[:6], jumps[:6], forward}
		want := pipedBy(p)
		listBefore, jumpsBefore := slices.Clone(list), slices.Clone(jumps)
		got := pipedOf(p)
		checkApart(t, append([][]int{got.ticks}, got.table...))
		spoil(got.table, []int{7})
		if !sameCode(list, listBefore) || !slices.Equal(jumps, jumpsBefore) {
			t.Errorf("what was given is now %v, %v", list, jumps)
		}
		checkPiped(t, p, want)
	}
}
