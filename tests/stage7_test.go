package tests

import (
	"math"
	"slices"
	"strings"
	"testing"

	"loop.example/smallmachines/impl"
)

// plans is all that the functions of chapter 7 are to return for a block, but for moved ones.
type plans struct {
	waits            [][]int
	begins, heights  []int
	plan, best       []int
	end, soon, least int
}

// namesBy returns the names of the registers that an instruction reads, and that of the one that it writes.
func namesBy(c impl.Instr) (string, string) {
	words := strings.Fields(impl.ShowInstr(c))
	switch words[0] {
	case "jmp", "hlt":
		return "", ""
	case "bz":
		return words[1], ""
	case "set":
		return "", words[1]
	case "ld":
		return words[2], words[1]
	case "st":
		return words[1] + words[2], ""
	}
	return words[2] + words[3], words[1]
}

func ticksBy(c impl.Instr) int {
	return map[string]int{"set": 1, "add": 1, "sub": 1, "mul": 2, "lt": 1, "ld": 3, "st": 1, "bz": 1, "jmp": 1}[c.Op]
}

// waitBy asks one thing behind the other, as the document has them.
func waitBy(it, that impl.Instr) int {
	reads, writes := namesBy(it)
	readsThat, writesThat := namesBy(that)
	if writesThat != "" && strings.Contains(reads, writesThat) {
		return ticksBy(that)
	}
	if writesThat != "" && writes == writesThat {
		return max(ticksBy(that)-ticksBy(it)+1, 1)
	}
	if writes != "" && strings.Contains(readsThat, writes) {
		return 1
	}
	both := that.Op + " " + it.Op
	if both == "ld st" || both == "st ld" || both == "st st" {
		return 1
	}
	return 0
}

// beginsBy tries tick by tick whether the next one may begin.
func beginsBy(list []impl.Instr) ([]int, int) {
	var begins []int
	end := 0
	for tick := 0; len(begins) < len(list); tick++ {
		it := list[len(begins)]
		may := true
		for j, began := range begins {
			may = may && tick > began && tick >= began+waitBy(it, list[j])
		}
		if may {
			begins = append(begins, tick)
			end = max(end, tick+ticksBy(it))
		}
	}
	return begins, end
}

// heightBy goes all ways from one instruction to the end.
func heightBy(list []impl.Instr, i int) int {
	height := ticksBy(list[i])
	for k := i + 1; k < len(list); k++ {
		if wait := waitBy(list[k], list[i]); wait > 0 {
			height = max(height, wait+heightBy(list, k))
		}
	}
	return height
}

// inOrder returns the instructions in an order.
func inOrder(list []impl.Instr, order []int) []impl.Instr {
	var moved []impl.Instr
	for _, i := range order {
		moved = append(moved, list[i])
	}
	return moved
}

// isOrderBy reports whether each one of so many is there once, and behind all for which it waits.
func isOrderBy(list []impl.Instr, order []int) bool {
	sorted := slices.Sorted(slices.Values(order))
	for i := range max(len(list), len(order)) {
		if i >= len(sorted) || i >= len(list) || sorted[i] != i {
			return false
		}
	}
	for n, i := range order {
		for _, k := range order[n+1:] {
			if k < i && waitBy(list[i], list[k]) > 0 {
				return false
			}
		}
	}
	return true
}

// allOrders returns all orders of so many, lesser indices first.
func allOrders(size int) [][]int {
	if size == 0 {
		return [][]int{nil}
	}
	var all [][]int
	for first := range size {
		for _, later := range allOrders(size - 1) {
			order := []int{first}
			for _, i := range later {
				if i >= first {
					i++
				}
				order = append(order, i)
			}
			all = append(all, order)
		}
	}
	return all
}

// ordersOf are all orders, by how many instructions there are.
var ordersOf = [][][]int{allOrders(0), allOrders(1), allOrders(2), allOrders(3), allOrders(4), allOrders(5), allOrders(6)}

// bestOrderBy looks at all orders, and keeps one that is sooner.
func bestOrderBy(list []impl.Instr) ([]int, int) {
	var best []int
	end := math.MaxInt
	for _, order := range ordersOf[len(list)] {
		if !isOrderBy(list, order) {
			continue
		}
		if _, done := beginsBy(inOrder(list, order)); done < end {
			best, end = order, done
		}
	}
	return best, end
}

// planBy puts all that may be taken in a row, the one to take first.
func planBy(list []impl.Instr) []int {
	var order []int
	left := slices.Clone(ordersOf[len(list)][0])
	for len(left) > 0 {
		var row [][3]int
		for _, i := range left {
			waits := func(j int) bool { return j < i && waitBy(list[i], list[j]) > 0 }
			if !slices.ContainsFunc(left, waits) {
				begins, _ := beginsBy(inOrder(list, append(slices.Clone(order), i)))
				row = append(row, [3]int{begins[len(order)], -heightBy(list, i), i})
			}
		}
		slices.SortFunc(row, func(a, b [3]int) int { return slices.Compare(a[:], b[:]) })
		order = append(order, row[0][2])
		left = slices.DeleteFunc(left, func(i int) bool { return i == row[0][2] })
	}
	return order
}

func plansBy(list []impl.Instr) plans {
	var want plans
	for i, it := range list {
		var row []int
		for _, that := range list[:i] {
			row = append(row, waitBy(it, that))
		}
		want.waits = append(want.waits, row)
		want.heights = append(want.heights, heightBy(list, i))
	}
	want.begins, want.end = beginsBy(list)
	want.plan = planBy(list)
	want.best, want.soon = bestOrderBy(list)
	for i, it := range list {
		shortest := !slices.ContainsFunc(list, func(c impl.Instr) bool { return ticksBy(c) < ticksBy(it) })
		want.least = max(want.least, want.heights[i])
		if shortest {
			want.least = max(want.least, len(list)-1+ticksBy(it))
		}
	}
	return want
}

// plansOf returns all that the functions of chapter 7 return for a block, but for moved ones.
func plansOf(list []impl.Instr) plans {
	got := plans{waits: impl.WaitsOf(list), heights: impl.HeightsOf(list), plan: impl.PlanBlock(list), least: impl.LeastTime(list)}
	got.begins, got.end = impl.BlockTime(list)
	got.best, got.soon = impl.BestPlan(list)
	return got
}

func checkPlans(t *testing.T, list []impl.Instr, want plans) {
	t.Helper()
	text := lineOf(list)
	if !impl.ValidBlock(list) {
		t.Fatalf("ValidBlock of %q = false", text)
	}
	got := plansOf(list)
	if !sameRows(got.waits, want.waits) {
		t.Fatalf("WaitsOf %q = %v, not %v", text, got.waits, want.waits)
	}
	if !slices.Equal(got.begins, want.begins) || got.end != want.end {
		t.Fatalf("BlockTime of %q = %v, %d, not %v, %d", text, got.begins, got.end, want.begins, want.end)
	}
	if !slices.Equal(got.heights, want.heights) || got.least != want.least {
		t.Fatalf("HeightsOf and LeastTime of %q = %v, %d, not %v, %d", text, got.heights, got.least, want.heights, want.least)
	}
	if !slices.Equal(got.plan, want.plan) {
		t.Fatalf("PlanBlock of %q = %v, not %v", text, got.plan, want.plan)
	}
	if !slices.Equal(got.best, want.best) || got.soon != want.soon {
		t.Fatalf("BestPlan of %q = %v, %d, not %v, %d", text, got.best, got.soon, want.best, want.soon)
	}
}

// isStraight reports whether an instruction has a word that a block may have.
func isStraight(c impl.Instr) bool {
	return c.Op != "bz" && c.Op != "jmp" && c.Op != "hlt"
}

// straightInstrs returns all valid instructions that a block may have, with few of the numbers of set.
func straightInstrs() []impl.Instr {
	var list []impl.Instr
	for _, e := range allEntries() {
		if isStraight(e.c) && (e.c.Op != "set" || e.c.K%255 == 0) {
			list = append(list, e.c)
		}
	}
	return list
}

// someBlock returns a block in which ld, mul and st are frequent, of few registers or of all.
func someBlock(g *lcg, size int) []impl.Instr {
	registers := 2 + g.below(3)
	var list []impl.Instr
	for range size {
		d, a, b := g.below(registers), g.below(registers), g.below(registers)
		switch op := []string{"set", "add", "sub", "mul", "mul", "lt", "ld", "ld", "st"}[g.below(9)]; op {
		case "set":
			list = append(list, impl.Instr{Op: op, D: d, K: g.below(256)})
		case "ld", "st":
			list = append(list, impl.Instr{Op: op, D: d, A: a, K: g.below(8)})
		default:
			list = append(list, impl.Instr{Op: op, D: d, A: a, B: b})
		}
	}
	return list
}

// rowsOf returns all rows of as many of some instructions.
func rowsOf(few []impl.Instr, size int) [][]impl.Instr {
	rows := [][]impl.Instr{nil}
	for range size {
		var longer [][]impl.Instr
		for _, row := range rows {
			for _, c := range few {
				longer = append(longer, append(slices.Clone(row), c))
			}
		}
		rows = longer
	}
	return rows
}

// blocks returns all short blocks of some instructions, and some of all sizes.
func blocks(t *testing.T) [][]impl.Instr {
	var all [][]impl.Instr
	upTo := func(longest int, s string) {
		for size := range longest {
			all = append(all, rowsOf(codeOf(t, s), size+1)...)
		}
	}
	all = append(all, nil, []impl.Instr{})
	upTo(3, "set r0 1/ld r0 r1 0/ld r1 r0 7/st r1 r0 0/st r0 r2 3/mul r0 r0 r1/mul r2 r2 r2/add r1 r0 r2/lt r3 r3 r3/sub r2 r1 r1")
	upTo(4, "set r3 9/ld r1 r0 2/mul r2 r1 r0/add r3 r2 r1/st r1 r3 5")
	g := lcg(70)
	for size := 1; size <= 6; size++ {
		for range 200 {
			all = append(all, someBlock(&g, size))
		}
	}
	for _, s := range slices.Concat(fullBlocks, lateBlocks) {
		all = append(all, codeOf(t, s))
	}
	return all
}

// fullBlocks have as many instructions as may be, all of one kind, or hardly one that waits.
var fullBlocks = []string{
	"ld r0 r0 0/ld r0 r0 0/ld r0 r0 0/ld r0 r0 0/ld r0 r0 0/ld r0 r0 0",
	"st r0 r0 7/st r0 r0 7/st r0 r0 7/st r0 r0 7/st r0 r0 7/st r0 r0 7",
	"mul r3 r3 r3/mul r3 r3 r3/mul r3 r3 r3/mul r3 r3 r3/mul r3 r3 r3/mul r3 r3 r3",
	"ld r0 r3 0/ld r1 r3 1/ld r2 r3 2/mul r0 r0 r0/mul r1 r1 r1/mul r2 r2 r2",
	"set r0 1/set r1 2/set r2 3/set r3 4/st r0 r1 0/st r2 r3 7",
	"set r0 1/add r1 r3 r3/mul r2 r3 r3/st r3 r3 0/ld r0 r3 1/ld r1 r3 2",
}

// lateBlocks are those for which the order by the longest ways is not the best one.
var lateBlocks = []string{
	"ld r2 r3 1/ld r1 r0 0/add r3 r2 r1/st r1 r1 1",
	"ld r2 r3 1/ld r1 r0 0/st r1 r1 1/add r3 r2 r1",
	"ld r2 r3 1/ld r1 r0 0/set r2 2/mul r1 r0 r0/add r0 r3 r3",
	"set r1 1/ld r0 r0 0/mul r2 r1 r1/st r3 r0 0/set r2 2",
	"ld r0 r0 0/ld r3 r3 7/add r0 r3 r3/ld r2 r3 1/ld r3 r3 7",
}

// P51 and P52, and what else is told of a block: all as worked out here by other means, for blocks without instructions, short ones of all kinds, and those of all sizes.
func TestBlocksOfAllKinds(t *testing.T) {
	for _, list := range blocks(t) {
		checkPlans(t, list, plansBy(list))
	}
	if impl.MaxBlock != 6 {
		t.Errorf("MaxBlock = %d", impl.MaxBlock)
	}
}

// Each rule in blocks worked out by hand: registers that are read and written, and by one instruction too, memory, and orders that are sooner.
func TestPlansByHand(t *testing.T) {
	for s, want := range map[string]plans{
		"ld r0 r1 0/add r2 r0 r0/set r3 1":              {[][]int{nil, {3}, {0, 0}}, []int{0, 3, 4}, []int{4, 1, 1}, []int{0, 2, 1}, []int{0, 2, 1}, 5, 4, 4},
		"ld r3 r3 7":                                    {[][]int{nil}, []int{0}, []int{3}, []int{0}, []int{0}, 3, 3, 3},
		"mul r0 r0 r0/mul r0 r0 r0":                     {[][]int{nil, {2}}, []int{0, 2}, []int{4, 2}, []int{0, 1}, []int{0, 1}, 4, 4, 4},
		"mul r0 r1 r1/add r0 r2 r2":                     {[][]int{nil, {2}}, []int{0, 2}, []int{3, 1}, []int{0, 1}, []int{0, 1}, 3, 3, 3},
		"ld r0 r1 0/mul r0 r2 r2":                       {[][]int{nil, {2}}, []int{0, 2}, []int{4, 2}, []int{0, 1}, []int{0, 1}, 4, 4, 4},
		"ld r0 r0 0/set r0 1/ld r0 r1 0":                {[][]int{nil, {3}, {1, 1}}, []int{0, 3, 4}, []int{7, 4, 3}, []int{0, 1, 2}, []int{0, 1, 2}, 7, 7, 7},
		"st r0 r1 0/ld r2 r3 7/ld r0 r1 3/st r3 r3 0":   {[][]int{nil, {1}, {1, 0}, {1, 1, 1}}, []int{0, 1, 2, 3}, []int{4, 3, 3, 1}, []int{0, 1, 2, 3}, []int{0, 1, 2, 3}, 5, 5, 4},
		"set r0 1/ld r1 r2 0/add r3 r1 r1":              {[][]int{nil, {0}, {0, 3}}, []int{0, 1, 4}, []int{1, 4, 1}, []int{1, 0, 2}, []int{1, 0, 2}, 5, 4, 4},
		"ld r0 r1 0/mul r2 r0 r0/add r3 r2 r2/set r1 1": {[][]int{nil, {3}, {0, 2}, {1, 0, 0}}, []int{0, 3, 5, 6}, []int{6, 3, 1, 1}, []int{0, 3, 1, 2}, []int{0, 1, 3, 2}, 7, 6, 6},
		lateBlocks[0]:                                   {[][]int{nil, {0}, {3, 3}, {1, 3, 0}}, []int{0, 1, 4, 5}, []int{4, 4, 1, 1}, []int{0, 1, 2, 3}, []int{1, 0, 3, 2}, 6, 5, 4},
		fullBlocks[4]:                                   {[][]int{nil, {0}, {0, 0}, {0, 0, 0}, {1, 1, 0, 0}, {0, 0, 1, 1, 1}}, []int{0, 1, 2, 3, 4, 5}, []int{3, 3, 2, 2, 2, 1}, []int{0, 1, 2, 3, 4, 5}, []int{0, 1, 2, 3, 4, 5}, 6, 6, 6},
	} {
		checkPlans(t, codeOf(t, s), want)
	}
}

// The waits of all two instructions, with all registers and all cells, are those that are worked out here.
func TestWaitsOfAllPairs(t *testing.T) {
	all := straightInstrs()
	for _, that := range all {
		for _, it := range all {
			pair := []impl.Instr{that, it}
			want := waitBy(it, that)
			if got := impl.WaitsOf(pair); len(got) != 2 || len(got[0]) != 0 || !slices.Equal(got[1], []int{want}) {
				t.Fatalf("WaitsOf %q = %v, not %d", lineOf(pair), got, want)
			}
		}
	}
}

// P46: a block is a program, and one without its last instruction.
func TestBlocksArePrograms(t *testing.T) {
	for _, list := range blocks(t) {
		for size := len(list); size >= 0; size-- {
			if !impl.ValidBlock(list[:size]) || !impl.ValidCode(list[:size]) {
				t.Fatalf("%q is no block, or no program", lineOf(list[:size]))
			}
		}
		again := slices.Repeat(list, 7)
		if got, want := impl.ValidBlock(again), len(again) <= 6; got != want {
			t.Fatalf("ValidBlock of %q = %v", lineOf(again), got)
		}
	}
	for _, e := range allEntries() {
		if got := impl.ValidBlock([]impl.Instr{e.c}); got != isStraight(e.c) {
			t.Errorf("ValidBlock of %q = %v", e.text, got)
		}
	}
}

// P47: an instruction takes 1 to 3 ticks, all the time of a block of it alone.
func TestTicks(t *testing.T) {
	for _, e := range allEntries() {
		want := 1
		if isStraight(e.c) {
			want = ticksBy(e.c)
		}
		ticks := impl.TicksOf(e.c)
		if ticks != want || ticks < 1 || ticks > 3 {
			t.Errorf("TicksOf %q = %d", e.text, ticks)
		}
		if begins, end := impl.BlockTime([]impl.Instr{e.c}); isStraight(e.c) && (!slices.Equal(begins, []int{0}) || end != ticks) {
			t.Errorf("BlockTime of %q = %v, %d", e.text, begins, end)
		}
	}
	for _, c := range nearInstrs() {
		if ticks := impl.TicksOf(c); (ticks == -1) == impl.ValidInstr(c) {
			t.Errorf("TicksOf %v = %d", c, ticks)
		}
	}
}

// endOf returns all that a program leaves.
func endOf(t *testing.T, code []impl.Instr, m impl.Machine) impl.Machine {
	end, steps, done := impl.RunMachine(code, m, len(code))
	if steps != len(code) || !done {
		t.Fatalf("RunMachine(%v, %v) is not done: %d, %v", code, m, steps, done)
	}
	return end
}

// P48: two instructions that need not wait leave the same in both orders, in registers and in all of memory.
func TestWhatNeedNotWaitMayBeExchanged(t *testing.T) {
	all := straightInstrs()
	g := lcg(48)
	var machines []impl.Machine
	for range 40 {
		machines = append(machines, someMachine(&g, 0))
	}
	exchanged := 0
	for n, that := range all {
		for _, it := range all[n%4:] {
			pair, other := []impl.Instr{that, it}, []impl.Instr{it, that}
			if impl.WaitsOf(pair)[1][0] != 0 {
				continue
			}
			exchanged++
			m := machines[exchanged%len(machines)]
			if !sameMachine(endOf(t, pair, m), endOf(t, other, m)) {
				t.Fatalf("%q, the other way round, does not leave the same from %v", lineOf(pair), m)
			}
		}
	}
	if exchanged < 1000 {
		t.Errorf("only %d pairs need not wait", exchanged)
	}
}

// P48 the other way round: those that must wait may leave something else in the other order, so that a wait of 0 would be wrong.
func TestWhatWaitsMayNotBeExchanged(t *testing.T) {
	m := machineAt(0, [4]int{3, 5, 11, 8}, [8]int{21, 22, 23, 24, 25, 26, 27, 28})
	for _, s := range []string{"set r0 1/add r1 r0 r2", "set r0 1/add r1 r2 r0", "set r0 1/ld r1 r0 0", "set r0 1/st r0 r1 0", "set r0 1/st r1 r0 0", "ld r0 r1 0/set r0 7", "set r0 7/set r0 8", "add r1 r0 r2/set r0 1", "add r1 r2 r0/set r0 1", "ld r1 r0 0/set r0 1", "st r0 r1 0/set r0 1", "st r1 r0 0/set r0 1", "st r0 r3 7/ld r1 r3 7", "ld r1 r3 7/st r0 r3 7", "st r0 r3 2/st r1 r3 2", "st r0 r1 0/ld r2 r3 5", "ld r2 r3 5/st r0 r1 0", "st r2 r1 2/st r0 r3 7"} {
		pair := codeOf(t, s)
		if impl.WaitsOf(pair)[1][0] < 1 {
			t.Errorf("%q need not wait", s)
		}
		if sameMachine(endOf(t, pair, m), endOf(t, inOrder(pair, []int{1, 0}), m)) {
			t.Errorf("%q leaves the same in both orders", s)
		}
		if moved, ok := impl.MoveBlock(pair, []int{1, 0}); ok || len(moved) != 0 {
			t.Errorf("MoveBlock of %q = %v, %v", s, moved, ok)
		}
	}
}

// mayBegin reports whether an instruction may begin at a tick behind those ahead of it.
func mayBegin(begins, waits []int, tick int) bool {
	for j, wait := range waits {
		if tick < begins[j]+max(wait, 1) {
			return false
		}
	}
	return tick >= 0
}

// P49: each one begins as soon as it may, one behind the other, and at the end all are done, not ahead of LeastTime.
func TestTimesWait(t *testing.T) {
	for _, list := range blocks(t) {
		begins, end := impl.BlockTime(list)
		waits := impl.WaitsOf(list)
		if len(begins) != len(list) || len(waits) != len(list) {
			t.Fatalf("BlockTime of %q = %v", lineOf(list), begins)
		}
		last := 0
		for i, begin := range begins {
			if len(waits[i]) != i || !mayBegin(begins, waits[i], begin) || mayBegin(begins, waits[i], begin-1) {
				t.Fatalf("BlockTime of %q = %v, with waits %v", lineOf(list), begins, waits)
			}
			last = max(last, begin+impl.TicksOf(list[i]))
		}
		if end != last || end < impl.LeastTime(list) {
			t.Fatalf("BlockTime of %q = %v, %d", lineOf(list), begins, end)
		}
	}
}

// P50: a height is at least the instruction's ticks, and at least what one waits for it with the height of this one, and no more than one of them.
func TestHeights(t *testing.T) {
	for _, list := range blocks(t) {
		heights := impl.HeightsOf(list)
		if len(heights) != len(list) {
			t.Fatalf("HeightsOf %q = %v", lineOf(list), heights)
		}
		waits := impl.WaitsOf(list)
		for i, height := range heights {
			least := impl.TicksOf(list[i])
			for k := i + 1; k < len(list); k++ {
				if waits[k][i] > 0 {
					least = max(least, waits[k][i]+heights[k])
				}
			}
			if height != least {
				t.Fatalf("HeightsOf %q = %v", lineOf(list), heights)
			}
		}
	}
}

// timeOf returns when a block in an order that it may be moved to is done.
func timeOf(t *testing.T, list []impl.Instr, order []int) int {
	t.Helper()
	moved, ok := impl.MoveBlock(list, order)
	if !ok || !sameCode(moved, inOrder(list, order)) {
		t.Fatalf("MoveBlock of %q to %v = %v, %v", lineOf(list), order, moved, ok)
	}
	_, end := impl.BlockTime(moved)
	return end
}

// P51: a plan is an order to which the block may be moved, and is done no sooner than the best one, and later for some.
func TestPlansAreOrders(t *testing.T) {
	for _, list := range blocks(t) {
		plan := impl.PlanBlock(list)
		_, soon := impl.BestPlan(list)
		end := timeOf(t, list, plan)
		if end < soon {
			t.Fatalf("PlanBlock of %q = %v, done at %d, not %d", lineOf(list), plan, end, soon)
		}
	}
	for _, s := range lateBlocks {
		list := codeOf(t, s)
		if _, soon := impl.BestPlan(list); timeOf(t, list, impl.PlanBlock(list)) <= soon {
			t.Errorf("PlanBlock of %q is done no later than BestPlan", s)
		}
	}
}

// P52: the best plan is done at its time, no later than the block as it stands and any other order, and not ahead of LeastTime.
func TestBestPlansAreBest(t *testing.T) {
	for _, list := range blocks(t) {
		best, soon := impl.BestPlan(list)
		_, end := impl.BlockTime(list)
		if soon != timeOf(t, list, best) || soon > end || soon < impl.LeastTime(list) {
			t.Fatalf("BestPlan of %q = %v, %d", lineOf(list), best, soon)
		}
		for _, order := range ordersOf[min(len(list), 4)] {
			if len(order) != len(list) || !isOrderBy(list, order) {
				continue
			}
			done := timeOf(t, list, order)
			if done < soon || done == soon && slices.Compare(order, best) < 0 {
				t.Fatalf("BestPlan of %q = %v, %d, but %v is done at %d", lineOf(list), best, soon, order, done)
			}
		}
	}
}

// P53: a moved block leaves what the block leaves, in registers and in all of memory, and a block may be moved to no other order.
func TestMovedBlocksDoTheSame(t *testing.T) {
	g := lcg(53)
	for n, list := range blocks(t) {
		m := someMachine(&g, 0)
		end := endOf(t, list, m)
		for k, order := range ordersOf[len(list)] {
			if len(list) == 6 && (k+n)%20 != 0 {
				continue
			}
			moved, ok := impl.MoveBlock(list, order)
			if ok != isOrderBy(list, order) || !ok && len(moved) != 0 {
				t.Fatalf("MoveBlock of %q to %v = %v, %v", lineOf(list), order, moved, ok)
			}
			if ok && (!sameCode(moved, inOrder(list, order)) || !sameMachine(endOf(t, moved, m), end)) {
				t.Fatalf("%q is moved to %q, which does not leave the same from %v", lineOf(list), lineOf(moved), m)
			}
		}
		best, _ := impl.BestPlan(list)
		for _, order := range [][]int{best, impl.PlanBlock(list)} {
			if moved, _ := impl.MoveBlock(list, order); !sameMachine(endOf(t, moved, m), end) {
				t.Fatalf("%q in the order %v does not leave the same from %v", lineOf(list), order, m)
			}
		}
	}
}

// P54: the least time is at least each height, and at least how many instructions there are, and 0 without any.
func TestLeastTimes(t *testing.T) {
	for _, list := range blocks(t) {
		least := impl.LeastTime(list)
		if least < len(list) || len(list) == 0 && least != 0 {
			t.Fatalf("LeastTime of %q = %d", lineOf(list), least)
		}
		for _, height := range impl.HeightsOf(list) {
			if least < height {
				t.Fatalf("LeastTime of %q = %d, below %d", lineOf(list), least, height)
			}
		}
	}
	for s, want := range map[string]int{"ld r0 r3 0/ld r1 r3 0/ld r2 r3 0": 5, "mul r0 r3 r3/mul r1 r3 r3/mul r2 r3 r3": 4, "ld r0 r3 0/mul r1 r3 r3/mul r2 r3 r3": 4, "ld r0 r3 0/mul r1 r3 r3/set r2 1": 3, "set r0 1/set r1 1/set r2 1/set r3 1": 4} {
		if got := impl.LeastTime(codeOf(t, s)); got != want {
			t.Errorf("LeastTime of %q = %d, not %d", s, got, want)
		}
	}
}

// A block without instructions has the order without any, and is done at once.
func TestBlocksWithoutInstructions(t *testing.T) {
	for _, list := range [][]impl.Instr{nil, {}} {
		checkPlans(t, list, plans{})
		for _, order := range [][]int{nil, {}} {
			if moved, ok := impl.MoveBlock(list, order); !ok || len(moved) != 0 {
				t.Errorf("MoveBlock without instructions = %v, %v", moved, ok)
			}
		}
		for _, order := range [][]int{{0}, {-1}, {0, 1}} {
			if moved, ok := impl.MoveBlock(list, order); ok || len(moved) != 0 {
				t.Errorf("MoveBlock without instructions to %v = %v, %v", order, moved, ok)
			}
		}
	}
}

// Orders that do not have each index once are none.
func TestNoOrders(t *testing.T) {
	g := lcg(71)
	for size := 1; size <= 6; size++ {
		for range 20 {
			list := someBlock(&g, size)
			stands := ordersOf[size][0]
			wrong := [][]int{nil, stands[1:], stands[:size-1], append(slices.Clone(stands), size), append(slices.Clone(stands), 0), append(slices.Clone(stands), -1)}
			for i := range size {
				for _, n := range []int{-1, -2, size, size + 1, i + size, i - size, 6, 64 + i, math.MaxInt, math.MinInt} {
					order := slices.Clone(stands)
					order[i] = n
					wrong = append(wrong, order)
				}
				if size > 1 {
					order := slices.Clone(stands)
					order[i] = (i + 1) % size
					wrong = append(wrong, order)
				}
			}
			for _, order := range wrong {
				if moved, ok := impl.MoveBlock(list, order); ok || len(moved) != 0 {
					t.Fatalf("MoveBlock of %q to %v = %v, %v", lineOf(list), order, moved, ok)
				}
			}
		}
	}
}

// wrongBlocks are instructions that are no block: too many, one that leads elsewhere or ends, or one that is not valid, anywhere among others.
func wrongBlocks(t *testing.T) [][]impl.Instr {
	all := append(wrongCodes(), codeOf(t, "set r0 1/set r0 1/set r0 1/set r0 1/set r0 1/set r0 1/set r0 1"), slices.Repeat(codeOf(t, "ld r0 r0 0"), 40))
	g := lcg(72)
	for _, c := range []impl.Instr{{}, {Op: "hlt"}, {Op: "jmp"}, {Op: "jmp", K: 1}, {Op: "bz"}, {Op: "bz", A: 1, K: 1}, {Op: "nop"}, {Op: "set", D: 4}, {Op: "set", K: 256}, {Op: "set", A: 1}, {Op: "add", B: -1}, {Op: "add", K: 1}, {Op: "ld", K: 8}, {Op: "st", K: -1}, {Op: "st", B: 1}} {
		for size := range 6 {
			for i := range size + 1 {
				all = append(all, slices.Insert(someBlock(&g, size), i, c))
			}
		}
	}
	return all
}

// Instructions that are no block have no waits, no times and no orders.
func TestNoBlocks(t *testing.T) {
	for _, list := range wrongBlocks(t) {
		if impl.ValidBlock(list) {
			t.Errorf("ValidBlock(%v) = true", list)
		}
		got := plansOf(list)
		if len(got.waits)+len(got.begins)+len(got.heights)+len(got.plan)+len(got.best) != 0 || got.end != -1 || got.soon != -1 || got.least != -1 {
			t.Errorf("%v is planned: %v", list, got)
		}
		var stands []int
		for i := range list {
			stands = append(stands, i)
		}
		for _, order := range [][]int{nil, stands, {0}} {
			if moved, ok := impl.MoveBlock(list, order); ok || len(moved) != 0 {
				t.Errorf("MoveBlock(%v) = %v, %v", list, moved, ok)
			}
		}
	}
}

// Blocks and orders that are given stay as they are, and what is returned is new each time, and each row of it.
func TestPlansOfTheirOwn(t *testing.T) {
	for _, s := range append([]string{"set r0 1", "ld r2 r3 1/ld r1 r0 0/add r3 r2 r1/st r1 r1 1"}, fullBlocks...) {
		list := append(codeOf(t, s), impl.Instr{Op: "hlt"})
		given := list[:len(list)-1]
		before := slices.Clone(list)
		order := append(slices.Clone(ordersOf[len(given)][0]), 99)
		got := plansOf(given)
		moved, ok := impl.MoveBlock(given, order[:len(given)])
		if !ok || !sameCode(moved, given) {
			t.Errorf("MoveBlock of %q = %v, %v", s, moved, ok)
		}
		spoil(moved, impl.Instr{Op: "x"})
		checkApart(t, append([][]int{got.begins, got.heights, got.plan, got.best}, got.waits...))
		spoil(got.waits, []int{7})
		if !sameCode(list, before) || !slices.Equal(order, append(slices.Clone(ordersOf[len(given)][0]), 99)) {
			t.Errorf("what was given is now %v, %v", list, order)
		}
		checkPlans(t, given, plansBy(given))
	}
}
