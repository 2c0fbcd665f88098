package tests

import (
	"math"
	"slices"
	"strconv"
	"strings"
	"testing"

	"loop.example/smallmachines/impl"
)

// tour is the steps of a run with those ahead from which each one takes, and the longest chain of ticks, all worked out here.
type tour struct {
	list    []impl.Instr
	jumps   []bool
	sources [][]int
	longest int
	end     impl.Machine
}

// cellBy is the name of the cell of ld or st.
func cellBy(c impl.Instr, m impl.Machine) string {
	return "cell " + strconv.Itoa((m.Regs[c.A]+c.K)%8)
}

// sourcesBy looks in the names that were written for the last one of each that is wanted.
func sourcesBy(list []impl.Instr, machines []impl.Machine) [][]int {
	var written []string
	var sources [][]int
	for i, c := range list {
		reads, writes := namesBy(c)
		var wanted []string
		for _, name := range []string{"r0", "r1", "r2", "r3"} {
			if strings.Contains(reads, name) {
				wanted = append(wanted, name)
			}
		}
		switch c.Op {
		case "ld":
			wanted = append(wanted, cellBy(c, machines[i]))
		case "st":
			writes = cellBy(c, machines[i])
		}
		var row []int
		for _, name := range wanted {
			for j, other := range slices.Backward(written) {
				if other == name {
					row = append(row, j)
					break
				}
			}
		}
		sources = append(sources, row)
		written = append(written, writes)
	}
	return sources
}

// longestBy goes from the last one on back: a chain that begins at one is its ticks, and the longest chain of those that take from it.
func longestBy(list []impl.Instr, sources [][]int) int {
	chains := make([]int, len(list)+1)
	for i, c := range slices.Backward(list) {
		for j := range list {
			if slices.Contains(sources[j], i) {
				chains[i] = max(chains[i], chains[j])
			}
		}
		chains[i] += ticksBy(c)
	}
	return slices.Max(chains)
}

func tourBy(code []impl.Instr, m impl.Machine, fuel int) tour {
	var all tour
	var machines []impl.Machine
	for len(all.list) < fuel {
		next, ok := stepBy(code, m)
		if !ok {
			break
		}
		c := code[m.At]
		all.list = append(all.list, c)
		all.jumps = append(all.jumps, c.Op == "jmp" || c.Op == "bz" && m.Regs[c.A] == 0)
		machines = append(machines, m)
		m = next
	}
	all.end = m
	all.sources = sourcesBy(all.list, machines)
	all.longest = longestBy(all.list, all.sources)
	return all
}

// takenBy is the tick at which one is taken, from when the others are: behind those ahead of it, with a place left at that tick, a slot left, and no jump in the way.
func (u tour) takenBy(rows [][]int, i int, core impl.Core) int {
	tick := 0
	if i > 0 {
		tick = rows[i-1][0]
		if u.jumps[i-1] {
			tick = max(tick, rows[i-1][2])
		}
	}
	if i >= core.Width {
		tick = max(tick, rows[i-core.Width][0]+1)
	}
	if i >= core.Slots {
		tick = max(tick, rows[i-core.Slots][3])
	}
	return tick
}

// begunBy is the first tick at which one may begin, from when the others do: all is there, and a unit is left by those ahead of it, and by those behind it that have begun.
func (u tour) begunBy(rows [][]int, i int, core impl.Core) int {
	tick := rows[i][0] + 1
	for _, j := range u.sources[i] {
		tick = max(tick, rows[j][2])
	}
	for {
		busy := 0
		for j, row := range rows {
			if (row[1] < tick || row[1] == tick && j < i) && tick < row[2] && j != i {
				busy++
			}
		}
		if busy < core.Units {
			return tick
		}
		tick++
	}
}

// endedBy is the tick at which one ends, from when the others do.
func (u tour) endedBy(rows [][]int, i int, core impl.Core) int {
	tick := rows[i][2]
	if i > 0 {
		tick = max(tick, rows[i-1][3])
	}
	if i >= core.Width {
		tick = max(tick, rows[i-core.Width][3]+1)
	}
	return tick
}

// checkTurns checks each tick against those of the others: as at each tick there is but one thing to do, no other rows hold.
func checkTurns(t *testing.T, u tour, rows [][]int, core impl.Core) {
	t.Helper()
	if len(rows) != len(u.list) {
		t.Fatalf("TurnTimes of %q by %v has %d rows", textOfList(u.list), core, len(rows))
	}
	for i, row := range rows {
		if len(row) != 4 {
			t.Fatalf("TurnTimes of %q by %v = %v", textOfList(u.list), core, rows)
		}
		want := []int{u.takenBy(rows, i, core), u.begunBy(rows, i, core), row[1] + ticksBy(u.list[i]), u.endedBy(rows, i, core)}
		if !slices.Equal(row, want) {
			t.Fatalf("TurnTimes of %q, jumps %q, by %v = %v, but row %d is to be %v", textOfList(u.list), signsOf(u.jumps), core, rows, i, want)
		}
	}
}

func checkTour(t *testing.T, code []impl.Instr, m impl.Machine, fuel int, want tour) {
	t.Helper()
	if got := impl.SourcesOf(code, m, fuel); !sameRows(got, want.sources) {
		t.Fatalf("SourcesOf(%q, %v, %d) = %v, not %v", lineOf(code), m, fuel, got, want.sources)
	}
	if got := impl.FlowTime(code, m, fuel); got != want.longest {
		t.Fatalf("FlowTime(%q, %v, %d) = %d, not %d", lineOf(code), m, fuel, got, want.longest)
	}
}

func checkCore(t *testing.T, code []impl.Instr, m impl.Machine, fuel int, core impl.Core, want tour) {
	t.Helper()
	rows := impl.TurnTimes(code, m, fuel, core)
	checkTurns(t, want, rows, core)
	time := 0
	if len(rows) > 0 {
		time = rows[len(rows)-1][3] + 1
	}
	if got := impl.TurnTime(code, m, fuel, core); got != time {
		t.Fatalf("TurnTime(%q, %v, %d, %v) = %d, not %d", lineOf(code), m, fuel, core, got, time)
	}
	if got := impl.RunTurn(code, m, fuel, core); !sameMachine(got, want.end) {
		t.Fatalf("RunTurn(%q, %v, %d, %v) = %v, not %v", lineOf(code), m, fuel, core, got, want.end)
	}
}

func coreOf(width, slots, units int) impl.Core {
	return impl.Core{Width: width, Slots: slots, Units: units}
}

// allCores returns all cores, the narrowest one first.
func allCores() []impl.Core {
	var cores []impl.Core
	for width := 1; width <= 4; width++ {
		for slots := 1; slots <= 12; slots++ {
			for units := 1; units <= 4; units++ {
				cores = append(cores, coreOf(width, slots, units))
			}
		}
	}
	return cores
}

// fewCores returns the narrowest core, the widest one, and some between them.
func fewCores() []impl.Core {
	return []impl.Core{coreOf(1, 1, 1), coreOf(1, 12, 4), coreOf(2, 3, 1), coreOf(2, 6, 2), coreOf(3, 2, 2), coreOf(4, 4, 1), coreOf(4, 12, 2), coreOf(4, 12, 4)}
}

// tripsOf does something with programs of all kinds, with fuel of all sizes, and a core by which they are run, another one each time.
func tripsOf(t *testing.T, do func(j journey, fuel int, core impl.Core)) {
	g := lcg(100)
	cores := allCores()
	for n, j := range slices.Concat(journeys(t), walks(t)[:800], strolls(t)[:600]) {
		fuel := []int{300, g.below(301), g.below(40)}[n%3]
		do(j, fuel, cores[g.below(len(cores))])
	}
}

// P65: a core with a width of 1 is one, as each one in the limits is, and no other one.
func TestCores(t *testing.T) {
	if impl.MaxWidth != 4 || impl.MaxSlots != 12 || impl.MaxUnits != 4 {
		t.Errorf("MaxWidth = %d, MaxSlots = %d, MaxUnits = %d", impl.MaxWidth, impl.MaxSlots, impl.MaxUnits)
	}
	numbers := []int{math.MinInt, math.MinInt + 1, -256, -1, 255, 256, 257, 1 << 32, 1<<32 + 1, math.MaxInt}
	for n := range 20 {
		numbers = append(numbers, n)
	}
	count := 0
	for _, width := range numbers {
		for _, slots := range numbers {
			for _, units := range numbers {
				core := coreOf(width, slots, units)
				want := slices.Contains(allCores(), core)
				if impl.ValidCore(core) != want {
					t.Fatalf("ValidCore(%v) = %v", core, !want)
				}
				if want {
					count++
					if !impl.ValidCore(coreOf(1, slots, units)) {
						t.Fatalf("ValidCore(%v) = false with a width of 1", core)
					}
				}
			}
		}
	}
	if count != 4*12*4 {
		t.Errorf("%d cores are valid", count)
	}
}

// P66: the sources of an instruction are ahead of it, and each one writes a register that it reads, or is st to the cell that it reads.
func TestSourcesAreAhead(t *testing.T) {
	registers, cells := 0, 0
	tripsOf(t, func(j journey, fuel int, _ impl.Core) {
		sources := impl.SourcesOf(j.code, j.m, fuel)
		list, _ := impl.StepsOf(j.code, j.m, fuel)
		places := impl.PlacesOf(j.code, j.m, fuel)
		if len(sources) != len(list) {
			t.Fatalf("SourcesOf(%v, %v, %d) are %d", j.code, j.m, fuel, len(sources))
		}
		var cellOf []int
		for i, c := range list {
			cellOf = append(cellOf, -1)
			if c.Op == "ld" || c.Op == "st" {
				cellOf[i], places = places[0], places[1:]
			}
			reads, _ := impl.UsesOf(c)
			for _, k := range sources[i] {
				if k < 0 || k >= i {
					t.Fatalf("SourcesOf(%v, %v, %d) of step %d = %v", j.code, j.m, fuel, i, sources[i])
				}
				_, writes := impl.UsesOf(list[k])
				switch {
				case writes&reads != 0:
					registers++
				case c.Op == "ld" && list[k].Op == "st" && cellOf[k] == cellOf[i]+8:
					cells++
				default:
					t.Fatalf("step %d, %v, of %v, %v takes nothing from step %d, %v", i, c, j.code, j.m, k, list[k])
				}
			}
		}
	})
	if registers < 1000 || cells < 100 {
		t.Errorf("%d registers and %d cells are taken from others", registers, cells)
	}
}

// Sources worked out by hand: the last one that wrote, registers from 0 on, each one once, and cells of ld alone.
func TestSourcesByHand(t *testing.T) {
	for _, row := range []struct {
		code, sources string
		longest       int
	}{
		{"set r0 1", "", 1},
		{"ld r0 r0 0", "", 3},
		{"set r0 1/set r1 2/add r2 r1 r0", "//0 1", 2},
		{"set r1 1/set r0 2/add r2 r1 r0", "//1 0", 2},
		{"set r3 1/set r1 2/st r3 r1 0/st r1 r3 0", "//1 0/1 0", 2},
		{"set r0 1/mul r0 r0 r0/add r0 r0 r0", "/0/1", 4},
		{"set r0 1/set r0 2/add r1 r0 r2", "//1", 2},
		{"add r1 r0 r0/set r0 2", "/", 1},
		{"set r0 1/add r1 r2 r3", "/", 1},
		{"set r0 0/bz r0 2/bz r1 3", "/0/", 2},
		{"set r0 1/jmp 2/add r1 r0 r0", "//0", 2},
		// Cells that are written ahead.
		{"st r1 r0 3/ld r2 r0 3", "/0", 4},
		{"st r1 r0 3/ld r2 r3 3", "/0", 4},
		{"st r1 r0 3/ld r2 r0 4", "/", 3},
		{"st r1 r0 3/st r2 r0 3/ld r2 r0 3", "//1", 4},
		{"st r1 r0 3/st r2 r0 4/ld r2 r0 3", "//0", 4},
		{"st r1 r0 3/st r2 r0 3", "/", 1},
		{"ld r1 r0 3/st r2 r0 3", "/", 3},
		{"ld r1 r0 3/ld r2 r0 3", "/", 3},
		{"st r0 r0 3/ld r1 r0 3/ld r2 r0 3/add r3 r2 r1", "/0/0/1 2", 5},
		{"set r1 5/st r1 r1 6/ld r2 r0 3", "/0/1", 5},
		{"set r1 255/st r1 r0 7/ld r2 r1 0", "/0/0 1", 5},
		{"set r1 3/st r2 r0 3/ld r0 r1 0", "//0 1", 4},
		{"st r2 r0 3/set r1 3/ld r0 r1 0", "//1 0", 4},
		{"st r2 r0 3/set r1 4/ld r0 r1 0", "//1", 4},
		{"st r2 r0 1/ld r1 r0 1/st r1 r0 2/ld r2 r0 2/mul r3 r2 r2", "/0/1/2/3", 10},
		// What is not stepped is no source.
		{"jmp 2/set r0 1/add r1 r0 r0", "/", 1},
		{"set r0 1/hlt/add r1 r0 r0", "", 1},
	} {
		code, m := codeOf(t, row.code), impl.NewMachine()
		if got := rowsText(impl.SourcesOf(code, m, 300)); got != row.sources {
			t.Errorf("SourcesOf %q = %q, not %q", row.code, got, row.sources)
		}
		if got := impl.FlowTime(code, m, 300); got != row.longest {
			t.Errorf("FlowTime of %q = %d, not %d", row.code, got, row.longest)
		}
	}
	// Cells are those of the numbers in registers at first, and rounds take from the rounds ahead.
	m := machineAt(1, [4]int{0, 2, 10, 0}, [8]int{})
	if got := impl.SourcesOf(codeOf(t, "set r0 1/st r0 r1 0/ld r3 r2 0"), m, 300); rowsText(got) != "/0" {
		t.Errorf("SourcesOf = %v", got)
	}
	if got := impl.SourcesOf(codeOf(t, "add r0 r0 r1/bz r3 0"), m, 6); rowsText(got) != "///1//3" {
		t.Errorf("SourcesOf = %v", got)
	}
}

// All of chapter 10 as worked out here: programs of all kinds and fuel of all sizes.
func TestTurnsOfAllKinds(t *testing.T) {
	tripsOf(t, func(j journey, fuel int, core impl.Core) {
		want := tourBy(j.code, j.m, fuel)
		checkTour(t, j.code, j.m, fuel, want)
		checkCore(t, j.code, j.m, fuel, core, want)
	})
}

// All short programs of some instructions, with loops that go on, by some cores.
func TestTurnsOfAllShortPrograms(t *testing.T) {
	cores := fewCores()
	n := 0
	check := func(code []impl.Instr) {
		for _, m := range []impl.Machine{impl.NewMachine(), machineAt(0, [4]int{1, 3, 0, 11}, [8]int{0, 1, 2, 3, 4, 5, 6, 7})} {
			want := tourBy(code, m, 9)
			checkTour(t, code, m, 9, want)
			n++
			for k := range 3 {
				checkCore(t, code, m, 9, cores[(n+3*k)%len(cores)], want)
			}
		}
	}
	for size := range 4 {
		eachCode(t, size, []string{"hlt", "set r0 0", "set r1 3", "add r0 r0 r1", "mul r1 r0 r0", "ld r0 r1 0", "ld r1 r3 0", "st r0 r1 0", "st r1 r3 0"}, check)
	}
}

// All rows of few instructions of all ticks, in which there are many ways to go out of turn, by some cores.
func TestTurnsOfAllRows(t *testing.T) {
	few := listOf(t, "set r0 1/add r1 r0 r1/mul r0 r1 r1/ld r1 r2 0/st r0 r2 0/jmp 0")
	cores := fewCores()
	m := machineAt(0, [4]int{1, 2, 3, 4}, [8]int{5, 6, 7, 8, 9})
	n := 0
	for size := range 7 {
		for _, code := range rowsOf(few, size) {
			for i := range code {
				if code[i].Op == "jmp" {
					code[i].K = i + 1
				}
			}
			want := tourBy(code, m, 300)
			checkTour(t, code, m, 300, want)
			n++
			checkCore(t, code, m, 300, cores[n%len(cores)], want)
		}
	}
}

// By all cores, programs in which units, slots and places are few, and there is much to wait for.
func TestTurnsByAllCores(t *testing.T) {
	g := lcg(102)
	list := allEntries()
	var all []journey
	for range 12 {
		all = append(all, journey{slices.Concat(someBlock(&g, 20), someBlock(&g, 20)), someMachine(&g, 0)}, journey{livelyCode(&g, 40, list), someMachine(&g, 0)})
	}
	for _, s := range []string{"set r2 20/set r1 1/ld r0 r2 0/mul r0 r0 r2/st r0 r2 1/sub r2 r2 r1/bz r2 8/jmp 2", "ld r0 r0 0/ld r1 r1 0/mul r2 r2 r2/mul r3 r3 r3/jmp 0", "set r0 1/set r1 2/set r2 3/set r3 4/jmp 0"} {
		all = append(all, journey{codeOf(t, s), impl.NewMachine()})
	}
	for _, j := range all {
		want := tourBy(j.code, j.m, 60)
		checkTour(t, j.code, j.m, 60, want)
		for _, core := range allCores() {
			checkCore(t, j.code, j.m, 60, core, want)
		}
	}
}

// turnRows are ticks that are worked out by hand.
type turnRows struct {
	code  string
	core  impl.Core
	times string
}

func checkTurnRows(t *testing.T, list []turnRows) {
	t.Helper()
	for _, row := range list {
		code, m := codeOf(t, row.code), impl.NewMachine()
		rows := impl.TurnTimes(code, m, 300, row.core)
		if got := rowsText(rows); got != row.times {
			t.Errorf("TurnTimes %q by %v = %q, not %q", row.code, row.core, got, row.times)
			continue
		}
		if got := impl.TurnTime(code, m, 300, row.core); got != rows[len(rows)-1][3]+1 {
			t.Errorf("TurnTime %q by %v = %d", row.code, row.core, got)
		}
	}
}

// Ticks worked out by hand: one of all, few places, slots and units, and those that are begun out of turn.
func TestTurnsByHand(t *testing.T) {
	checkTurnRows(t, []turnRows{
		// One of all.
		{"set r0 1", coreOf(1, 1, 1), "0 1 2 2"},
		{"set r0 1/mul r1 r0 r0/ld r2 r1 0", coreOf(1, 1, 1), "0 1 2 2/2 3 5 5/5 6 9 9"},
		{"jmp 1/set r0 1", coreOf(1, 1, 1), "0 1 2 2/2 3 4 4"},
		// Four that need nothing, by cores that lack one thing each.
		{"set r0 1/set r1 1/set r2 1/set r3 1", coreOf(4, 12, 4), "0 1 2 2/0 1 2 2/0 1 2 2/0 1 2 2"},
		{"set r0 1/set r1 1/set r2 1/set r3 1", coreOf(4, 12, 1), "0 1 2 2/0 2 3 3/0 3 4 4/0 4 5 5"},
		{"set r0 1/set r1 1/set r2 1/set r3 1", coreOf(4, 12, 3), "0 1 2 2/0 1 2 2/0 1 2 2/0 2 3 3"},
		{"set r0 1/set r1 1/set r2 1/set r3 1", coreOf(2, 12, 4), "0 1 2 2/0 1 2 2/1 2 3 3/1 2 3 3"},
		{"set r0 1/set r1 1/set r2 1/set r3 1", coreOf(1, 12, 4), "0 1 2 2/1 2 3 3/2 3 4 4/3 4 5 5"},
		{"set r0 1/set r1 1/set r2 1/set r3 1", coreOf(4, 2, 4), "0 1 2 2/0 1 2 2/2 3 4 4/2 3 4 4"},
		{"set r0 1/set r1 1/set r2 1/set r3 1", coreOf(4, 1, 4), "0 1 2 2/2 3 4 4/4 5 6 6/6 7 8 8"},
		{"set r0 1/set r1 1/set r2 1/set r3 1", coreOf(4, 3, 4), "0 1 2 2/0 1 2 2/0 1 2 2/2 3 4 4"},
		// Done out of turn, but ended in order, no more at once than the width.
		{"ld r0 r1 0/set r2 1/set r3 1", coreOf(4, 12, 4), "0 1 4 4/0 1 2 4/0 1 2 4"},
		{"ld r0 r1 0/set r2 1/set r3 1", coreOf(2, 12, 4), "0 1 4 4/0 1 2 4/1 2 3 5"},
		{"ld r0 r1 0/set r2 1/set r3 1", coreOf(1, 12, 4), "0 1 4 4/1 2 3 5/2 3 4 6"},
		{"ld r0 r1 0/set r2 1/set r3 1", coreOf(4, 12, 1), "0 1 4 4/0 4 5 5/0 5 6 6"},
		{"ld r0 r1 0/set r2 1/set r3 1", coreOf(4, 2, 4), "0 1 4 4/0 1 2 4/4 5 6 6"},
		// One begins ahead of another one that waits, if a unit is left.
		{"ld r0 r1 0/add r2 r0 r0/set r3 1", coreOf(4, 12, 2), "0 1 4 4/0 4 5 5/0 1 2 5"},
		{"ld r0 r1 0/add r2 r0 r0/set r3 1", coreOf(4, 12, 1), "0 1 4 4/0 4 5 5/0 5 6 6"},
		{"ld r0 r1 0/add r1 r0 r0/ld r2 r2 0/mul r3 r3 r3", coreOf(4, 12, 2), "0 1 4 4/0 4 5 5/0 1 4 5/0 4 6 6"},
		// Of several that may begin the first ones do, also if one further behind has a unit already.
		{"mul r0 r0 r0/add r1 r0 r0/mul r2 r2 r2/set r3 1", coreOf(4, 12, 1), "0 1 3 3/0 3 4 4/0 4 6 6/0 6 7 7"},
		{"mul r0 r0 r0/add r1 r0 r0/add r2 r0 r0/ld r3 r3 0", coreOf(4, 12, 2), "0 1 3 3/0 3 4 4/0 4 5 5/0 1 4 5"},
		// Each one waits for all that it takes, and for nothing else.
		{"set r0 1/ld r1 r2 0/add r3 r0 r1", coreOf(4, 12, 4), "0 1 2 2/0 1 4 4/0 4 5 5"},
		{"ld r0 r1 0/add r0 r2 r2/add r3 r0 r0", coreOf(4, 12, 4), "0 1 4 4/0 1 2 4/0 2 3 4"},
		{"ld r1 r0 0/set r0 3/st r0 r0 0", coreOf(4, 12, 4), "0 1 4 4/0 1 2 4/0 2 3 4"},
	})
}

// Jumps hold what is behind them until they are done, and those that do not jump hold nothing.
func TestJumpsHold(t *testing.T) {
	wide := coreOf(4, 12, 4)
	checkTurnRows(t, []turnRows{
		{"jmp 1", wide, "0 1 2 2"},
		{"jmp 1/set r0 1", wide, "0 1 2 2/2 3 4 4"},
		{"bz r0 1/set r0 1", wide, "0 1 2 2/2 3 4 4"},
		{"set r0 1/bz r0 3/set r1 1", wide, "0 1 2 2/0 2 3 3/0 1 2 3"},
		{"ld r0 r1 0/bz r0 3/hlt/set r2 1", wide, "0 1 4 4/0 4 5 5/5 6 7 7"},
		{"ld r0 r1 0/jmp 2/set r2 1", wide, "0 1 4 4/0 1 2 4/2 3 4 4"},
		{"jmp 1/jmp 2/set r0 1", wide, "0 1 2 2/2 3 4 4/4 5 6 6"},
		{"set r0 1/jmp 2/set r1 1/set r2 1", wide, "0 1 2 2/0 1 2 2/2 3 4 4/2 3 4 4"},
		{"set r0 1/jmp 2/set r1 1", coreOf(1, 12, 4), "0 1 2 2/1 2 3 3/3 4 5 5"},
		{"set r0 1/set r1 1/jmp 3/set r2 1", coreOf(2, 12, 4), "0 1 2 2/0 1 2 2/1 2 3 3/3 4 5 5"},
		{"set r0 1/set r1 1/jmp 3/set r2 1", coreOf(4, 12, 1), "0 1 2 2/0 2 3 3/0 3 4 4/4 5 6 6"},
		{"ld r0 r1 0/jmp 2/set r2 1", coreOf(4, 2, 4), "0 1 4 4/0 1 2 4/4 5 6 6"},
		{"ld r0 r1 0/jmp 2/set r2 1", coreOf(4, 3, 4), "0 1 4 4/0 1 2 4/2 3 4 4"},
	})
}

// What is in cells that are written ahead is waited for, and in others it is not.
func TestCellsWrittenAhead(t *testing.T) {
	wide := coreOf(4, 12, 4)
	checkTurnRows(t, []turnRows{
		{"set r0 7/st r0 r1 3/ld r2 r3 3", wide, "0 1 2 2/0 2 3 3/0 3 6 6"},
		{"set r0 7/st r0 r1 3/ld r2 r3 4", wide, "0 1 2 2/0 2 3 3/0 1 4 4"},
		{"set r0 7/st r0 r1 3/st r1 r1 3/ld r2 r3 3", wide, "0 1 2 2/0 2 3 3/0 1 2 3/0 2 5 5"},
		{"ld r0 r1 3/st r1 r1 3", wide, "0 1 4 4/0 1 2 4"},
		{"ld r0 r1 3/st r0 r1 4/st r1 r1 4", wide, "0 1 4 4/0 4 5 5/0 1 2 5"},
	})
	full := [8]int{10, 11, 12, 13, 14, 15, 16, 17}
	for _, row := range []struct {
		code string
		regs [4]int
		end  impl.Machine
	}{
		// The later one writes first, to a register and to a cell.
		{"ld r0 r1 0/set r0 5", [4]int{}, machineAt(2, [4]int{5, 0, 0, 0}, full)},
		{"ld r0 r1 1/st r0 r1 0/st r1 r1 0", [4]int{1, 0, 2, 3}, machineAt(3, [4]int{11, 0, 2, 3}, [8]int{0, 11, 12, 13, 14, 15, 16, 17})},
		{"ld r0 r1 1/add r2 r0 r0/set r0 5", [4]int{}, machineAt(3, [4]int{5, 0, 22, 0}, full)},
		// A cell is written ahead of the one that reads what was in it, which is begun earlier, or later.
		{"ld r0 r1 1/st r1 r1 1", [4]int{}, machineAt(2, [4]int{11, 0, 0, 0}, [8]int{10, 0, 12, 13, 14, 15, 16, 17})},
		{"ld r0 r1 1/ld r2 r0 6/st r3 r1 1", [4]int{0, 0, 0, 9}, machineAt(3, [4]int{11, 0, 11, 9}, [8]int{10, 9, 12, 13, 14, 15, 16, 17})},
		// A cell is read behind the last one that writes to it, and not behind one that does later.
		{"st r0 r1 2/ld r2 r1 2/st r3 r1 2", [4]int{6, 0, 7, 8}, machineAt(3, [4]int{6, 0, 6, 8}, [8]int{10, 11, 8, 13, 14, 15, 16, 17})},
		{"st r0 r1 2/st r3 r1 2/ld r2 r1 2/set r1 4/st r2 r1 2", [4]int{6, 0, 7, 8}, machineAt(5, [4]int{6, 4, 8, 8}, [8]int{10, 11, 8, 13, 14, 15, 8, 17})},
		{"bz r3 2/hlt/set r1 1", [4]int{}, machineAt(3, [4]int{0, 1, 0, 0}, full)},
	} {
		m := machineAt(0, row.regs, full)
		for _, core := range allCores() {
			if got := impl.RunTurn(codeOf(t, row.code), m, 300, core); !sameMachine(got, row.end) {
				t.Errorf("RunTurn %q by %v = %v, not %v", row.code, core, got, row.end)
			}
		}
	}
}

// P67: each instruction is taken, begun, done and ended, in order taken and ended, no more at once than the core lets, and begins when all that it takes is done.
func TestTurnsInOrder(t *testing.T) {
	early := 0
	tripsOf(t, func(j journey, fuel int, core impl.Core) {
		rows := impl.TurnTimes(j.code, j.m, fuel, core)
		list, _ := impl.StepsOf(j.code, j.m, fuel)
		sources := impl.SourcesOf(j.code, j.m, fuel)
		taken, ended := map[int]int{}, map[int]int{}
		for i, row := range rows {
			if row[0] < 0 || row[0] >= row[1] || row[2] != row[1]+impl.TicksOf(list[i]) || row[2] > row[3] {
				t.Fatalf("TurnTimes(%v, %v, %d, %v) of step %d = %v", j.code, j.m, fuel, core, i, row)
			}
			taken[row[0]]++
			ended[row[3]]++
			if taken[row[0]] > core.Width || ended[row[3]] > core.Width {
				t.Fatalf("TurnTimes(%v, %v, %d, %v) are too many at once: %v", j.code, j.m, fuel, core, rows)
			}
			if i > 0 {
				if row[0] < rows[i-1][0] || row[3] < rows[i-1][3] {
					t.Fatalf("TurnTimes(%v, %v, %d, %v) are not in order: %v", j.code, j.m, fuel, core, rows)
				}
				if row[1] < rows[i-1][1] {
					early++
				}
			}
			for _, source := range sources[i] {
				if row[1] < rows[source][2] {
					t.Fatalf("TurnTimes(%v, %v, %d, %v): step %d begins ahead of what it takes: %v", j.code, j.m, fuel, core, i, rows)
				}
			}
		}
	})
	if early < 100 {
		t.Errorf("only %d begin ahead of the one ahead of them", early)
	}
}

// P68: no core is faster than what is taken from others, than its width, or than its units, and some cores are just as fast.
func TestCoresAreNoFaster(t *testing.T) {
	tripsOf(t, func(j journey, fuel int, core impl.Core) {
		time := impl.TurnTime(j.code, j.m, fuel, core)
		_, steps, _ := impl.RunMachine(j.code, j.m, fuel)
		if time < impl.FlowTime(j.code, j.m, fuel) || time*core.Width < steps || time*core.Units < steps || steps == 0 && time != 0 {
			t.Fatalf("TurnTime(%v, %v, %d, %v) = %d, of %d steps", j.code, j.m, fuel, core, time, steps)
		}
	})
	// Two ticks more than the chain: one to be taken, and one to end.
	chain := slices.Repeat(codeOf(t, "mul r0 r0 r0/ld r0 r0 0/add r0 r0 r0"), 10)
	if time, flow := impl.TurnTime(chain, impl.NewMachine(), 300, coreOf(4, 12, 4)), impl.FlowTime(chain, impl.NewMachine(), 300); flow != 60 || time != 62 {
		t.Errorf("a chain of %d ticks takes %d", flow, time)
	}
	many := slices.Repeat(codeOf(t, "set r0 1"), 40)
	for _, c := range []struct {
		core impl.Core
		time int
	}{{coreOf(4, 12, 4), 12}, {coreOf(2, 12, 4), 22}, {coreOf(1, 12, 4), 42}, {coreOf(4, 12, 1), 42}, {coreOf(4, 12, 2), 22}, {coreOf(4, 1, 4), 81}, {coreOf(1, 1, 1), 81}} {
		if time := impl.TurnTime(many, impl.NewMachine(), 300, c.core); time != c.time {
			t.Errorf("40 instructions take %d ticks by %v, not %d", time, c.core, c.time)
		}
	}
}

// P69: RunTurn is RunMachine by any core, whether the run is done with the fuel or not.
func TestOutOfTurnIsInTurn(t *testing.T) {
	halves := 0
	tripsOf(t, func(j journey, fuel int, core impl.Core) {
		want, _, done := impl.RunMachine(j.code, j.m, fuel)
		if !done {
			halves++
		}
		for _, c := range append(fewCores(), core) {
			if got := impl.RunTurn(j.code, j.m, fuel, c); !sameMachine(got, want) {
				t.Fatalf("RunTurn(%v, %v, %d, %v) = %v, not %v", j.code, j.m, fuel, c, got, want)
			}
		}
	})
	if halves < 100 {
		t.Errorf("only %d runs are not done", halves)
	}
	for _, s := range samples()[:200] {
		code, _ := impl.CompileSource(s.text)
		want, _, _ := impl.RunMachine(code, impl.NewMachine(), 300)
		if got := impl.RunTurn(code, impl.NewMachine(), 300, coreOf(2, 6, 2)); !sameMachine(got, want) {
			t.Fatalf("RunTurn of %q = %v, not %v", s.text, got, want)
		}
	}
}

// P70: FlowTime with less fuel is no more, and at most all ticks together.
func TestFlowsGoOn(t *testing.T) {
	n := 0
	tripsOf(t, func(j journey, fuel int, _ impl.Core) {
		n++
		if n%8 != 0 {
			return
		}
		list, _ := impl.StepsOf(j.code, j.m, fuel)
		last, sum := 0, 0
		for less := range fuel + 1 {
			time := impl.FlowTime(j.code, j.m, less)
			if less > 0 && less <= len(list) {
				sum += impl.TicksOf(list[less-1])
			}
			if time < last || time > sum {
				t.Fatalf("FlowTime(%v, %v, %d) = %d, of %d ticks, and %d with less", j.code, j.m, less, time, sum, last)
			}
			last = time
		}
	})
}

// What is no program, no machine, no fuel or no core has no turns.
func TestNoTurns(t *testing.T) {
	check := func(code []impl.Instr, m impl.Machine, fuel int, core impl.Core) {
		t.Helper()
		if rows := impl.TurnTimes(code, m, fuel, core); len(rows) != 0 {
			t.Errorf("TurnTimes(%v, %v, %d, %v) = %v", code, m, fuel, core, rows)
		}
		if time := impl.TurnTime(code, m, fuel, core); time != -1 {
			t.Errorf("TurnTime(%v, %v, %d, %v) = %d", code, m, fuel, core, time)
		}
		if end := impl.RunTurn(code, m, fuel, core); !isNoMachine(end) {
			t.Errorf("RunTurn(%v, %v, %d, %v) = %v", code, m, fuel, core, end)
		}
	}
	checkAll := func(code []impl.Instr, m impl.Machine, fuel int) {
		t.Helper()
		for _, core := range fewCores() {
			check(code, m, fuel, core)
		}
		if rows := impl.SourcesOf(code, m, fuel); len(rows) != 0 {
			t.Errorf("SourcesOf(%v, %v, %d) = %v", code, m, fuel, rows)
		}
		if time := impl.FlowTime(code, m, fuel); time != -1 {
			t.Errorf("FlowTime(%v, %v, %d) = %d", code, m, fuel, time)
		}
	}
	good, m := codeOf(t, "set r0 1/jmp 2"), impl.NewMachine()
	for _, fuel := range []int{-1, 301, math.MaxInt, math.MinInt} {
		checkAll(good, m, fuel)
		checkAll(nil, m, fuel)
	}
	for _, wrong := range wrongMachines() {
		checkAll(good, wrong, 5)
		checkAll(nil, wrong, 0)
	}
	for _, wrong := range wrongCodes() {
		checkAll(wrong, m, 5)
		checkAll(wrong, m, 0)
	}
	for _, core := range []impl.Core{{}, coreOf(0, 1, 1), coreOf(1, 0, 1), coreOf(1, 1, 0), coreOf(-1, 1, 1), coreOf(1, -1, 1), coreOf(1, 1, -1), coreOf(5, 12, 4), coreOf(4, 13, 4), coreOf(4, 12, 5), coreOf(math.MaxInt, 12, 4), coreOf(4, math.MaxInt, 4), coreOf(4, 12, math.MaxInt), coreOf(math.MinInt, 1, 1), coreOf(1, math.MinInt, 1), coreOf(1, 1, math.MinInt)} {
		check(good, m, 300, core)
		check(nil, m, 300, core)
		check(good, m, 0, core)
		check(good, impl.Machine{}, 5, core)
	}
}

// Without steps there are no ticks, and the machine stays as it is.
func TestTurnsWithoutSteps(t *testing.T) {
	g := lcg(103)
	for _, row := range []struct {
		code     string
		at, fuel int
	}{{"hlt", 0, 300}, {"hlt", 1, 300}, {"set r0 1/hlt", 1, 300}, {"set r0 1", 1, 5}, {"set r0 1", 40, 5}, {"set r0 1", 0, 0}, {"jmp 0", 0, 0}} {
		code, m := codeOf(t, row.code), someMachine(&g, row.at)
		for _, core := range allCores() {
			checkCore(t, code, m, row.fuel, core, tour{end: m})
		}
		checkTour(t, code, m, row.fuel, tour{})
	}
	for _, code := range [][]impl.Instr{nil, {}} {
		m := someMachine(&g, 7)
		checkCore(t, code, m, 300, coreOf(1, 1, 1), tour{end: m})
		checkTour(t, code, m, 300, tour{})
	}
}

// What is given stays as it is, and what is returned is new each time, and each row of it.
func TestTurnsOfTheirOwn(t *testing.T) {
	core := coreOf(2, 6, 2)
	code := append(codeOf(t, "set r0 3/set r1 1/mul r2 r0 r1/st r2 r0 0/ld r3 r0 0/sub r0 r0 r1/bz r0 8/jmp 2"), impl.Instr{Op: "hlt"})
	before := slices.Clone(code)
	m := machineAt(0, [4]int{1, 2, 3, 4}, [8]int{5, 6, 7, 8, 9, 10, 11, 12})
	at := copyOf(m)
	want := tourBy(code[:8], m, 300)
	for range 2 {
		checkTour(t, code[:8], m, 300, want)
		checkCore(t, code[:8], m, 300, core, want)
		checkApart(t, impl.SourcesOf(code[:8], m, 300))
		checkApart(t, impl.TurnTimes(code[:8], m, 300, core))
		spoil(impl.SourcesOf(code[:8], m, 300), []int{7})
		spoil(impl.TurnTimes(code[:8], m, 300, core), []int{7})
		end := impl.RunTurn(code[:8], m, 300, core)
		spoil(end.Regs, 77)
		spoil(end.Mem, 78)
		still := impl.RunTurn(nil, m, 300, core)
		spoil(still.Regs, 77)
		spoil(still.Mem, 78)
	}
	if !sameCode(code, before) || !sameMachine(m, at) {
		t.Errorf("what was given is now %v, %v", code, m)
	}
}
