package tests

import (
	"math"
	"slices"
	"strings"
	"testing"

	"loop.example/smallmachines/impl"
)

// machineAt returns a machine with the numbers, written out anew here.
func machineAt(at int, regs [4]int, mem [8]int) impl.Machine {
	return impl.Machine{At: at, Regs: regs[:], Mem: mem[:]}
}

func copyOf(m impl.Machine) impl.Machine {
	return impl.Machine{At: m.At, Regs: slices.Clone(m.Regs), Mem: slices.Clone(m.Mem)}
}

func sameMachine(a, b impl.Machine) bool {
	return a.At == b.At && slices.Equal(a.Regs, b.Regs) && slices.Equal(a.Mem, b.Mem)
}

func isNoMachine(m impl.Machine) bool {
	return m.At == 0 && len(m.Regs) == 0 && len(m.Mem) == 0
}

// someMachine returns a machine whose numbers are often at the ends of their range.
func someMachine(g *lcg, at int) impl.Machine {
	m := machineAt(at, [4]int{}, [8]int{})
	for _, list := range [][]int{m.Regs, m.Mem} {
		for i := range list {
			list[i] = []int{0, 1, 2, 255, g.below(256), g.below(256)}[g.below(6)]
		}
	}
	return m
}

// stepBy is what the document says of a step, written out anew here, with bytes that go round by themselves.
func stepBy(code []impl.Instr, m impl.Machine) (impl.Machine, bool) {
	if m.At >= len(code) || code[m.At].Op == "hlt" {
		return impl.Machine{}, false
	}
	c := code[m.At]
	n := copyOf(m)
	n.At = m.At + 1
	a, b := uint8(m.Regs[c.A]), uint8(m.Regs[c.B])
	cell := (m.Regs[c.A] + c.K) & 7
	switch c.Op {
	case "set":
		n.Regs[c.D] = c.K
	case "add":
		n.Regs[c.D] = int(a + b)
	case "sub":
		n.Regs[c.D] = int(a - b)
	case "mul":
		n.Regs[c.D] = int(a * b)
	case "lt":
		n.Regs[c.D] = map[bool]int{true: 1, false: 0}[a < b]
	case "ld":
		n.Regs[c.D] = m.Mem[cell]
	case "st":
		n.Mem[cell] = m.Regs[c.D]
	case "jmp":
		n.At = c.K
	case "bz":
		if a == 0 {
			n.At = c.K
		}
	}
	return n, true
}

// told is all that the functions of a run are to return.
type told struct {
	end    impl.Machine
	steps  int
	done   bool
	trace  []int
	jumps  []bool
	places []int
}

func runBy(code []impl.Instr, m impl.Machine, fuel int) told {
	var all told
	for {
		next, ok := stepBy(code, m)
		if !ok || all.steps == fuel {
			all.end, all.done = m, !ok
			return all
		}
		c := code[m.At]
		all.steps++
		all.trace = append(all.trace, m.At)
		switch c.Op {
		case "bz":
			all.jumps = append(all.jumps, m.Regs[c.A] == 0)
		case "ld":
			all.places = append(all.places, (m.Regs[c.A]+c.K)%8)
		case "st":
			all.places = append(all.places, (m.Regs[c.A]+c.K)%8+8)
		}
		m = next
	}
}

// livelyCode returns a program in which all words but hlt are as frequent, so that it often runs for long.
func livelyCode(g *lcg, size int, list []entry) []impl.Instr {
	byWord := map[string][]impl.Instr{}
	for _, e := range list {
		byWord[e.c.Op] = append(byWord[e.c.Op], e.c)
	}
	words := []string{"set", "add", "sub", "mul", "lt", "ld", "st", "bz", "jmp"}
	var code []impl.Instr
	for len(code) < size {
		word := words[g.below(len(words))]
		if g.below(60) == 0 {
			word = "hlt"
		}
		c := byWord[word][g.below(len(byWord[word]))]
		if word == "bz" || word == "jmp" {
			c.K = g.below(size + 1)
		}
		code = append(code, c)
	}
	return code
}

// journey is a program and a machine to run by it.
type journey struct {
	code []impl.Instr
	m    impl.Machine
}

// codeOf returns the program of texts with a / between two of them.
func codeOf(t *testing.T, s string) []impl.Instr {
	t.Helper()
	code, ok := impl.ReadCode(strings.ReplaceAll(s, "/", "\n") + "\n")
	if !ok {
		t.Fatalf("ReadCode of %q", s)
	}
	return code
}

// journeys returns programs of all sizes with machines that stand anywhere, at and behind the end too.
func journeys(t *testing.T) []journey {
	g := lcg(2)
	list := allEntries()
	var all []journey
	for size := 0; size <= 40; size++ {
		for range 12 {
			all = append(all, journey{livelyCode(&g, size, list), someMachine(&g, g.below(size+1))})
		}
		code := livelyCode(&g, size, list)
		all = append(all, journey{code, someMachine(&g, size)}, journey{code, someMachine(&g, 40)}, journey{code, impl.NewMachine()})
	}
	for _, s := range []string{"hlt", "jmp 0", "jmp 1", "bz r0 0", "bz r0 1", "set r0 1/jmp 0", "jmp 2/hlt/st r3 r3 7/ld r1 r0 7/bz r2 0", "set r0 255/st r0 r0 7/ld r1 r0 7/ld r2 r0 0/st r2 r1 1", "set r0 200/set r1 1/sub r0 r0 r1/bz r0 5/jmp 2"} {
		all = append(all, journey{codeOf(t, s), impl.NewMachine()}, journey{codeOf(t, s), someMachine(&g, 0)})
	}
	return all
}

// wrongMachines are machines that are not valid.
func wrongMachines() []impl.Machine {
	list := []impl.Machine{{}, {Regs: make([]int, 4)}, {Mem: make([]int, 8)}, {Regs: make([]int, 3), Mem: make([]int, 8)}, {Regs: make([]int, 5), Mem: make([]int, 8)}, {Regs: make([]int, 4), Mem: make([]int, 7)}, {Regs: make([]int, 4), Mem: make([]int, 9)}, {Regs: make([]int, 8), Mem: make([]int, 4)}}
	for _, at := range []int{-1, 41, 256, math.MaxInt, math.MinInt} {
		list = append(list, machineAt(at, [4]int{}, [8]int{}))
	}
	for _, n := range []int{-1, 256, 257, -256, 512, math.MaxInt, math.MinInt} {
		for i := range 4 {
			m := impl.NewMachine()
			m.Regs[i] = n
			list = append(list, m)
		}
		for i := range 8 {
			m := impl.NewMachine()
			m.Mem[i] = n
			list = append(list, m)
		}
	}
	return list
}

// wrongCodes are programs that are not valid.
func wrongCodes() [][]impl.Instr {
	return [][]impl.Instr{{{}}, {{Op: "set"}, {Op: "nop"}}, {{Op: "set", K: 256}}, {{Op: "set"}, {Op: "jmp", K: 3}}, {{Op: "bz", K: -1}}, {{Op: "add", D: 4}}, {{Op: "add", A: -1}}, {{Op: "ld", K: 8}}, {{Op: "hlt", B: 1}}, make([]impl.Instr, 41), slices.Repeat([]impl.Instr{{Op: "hlt"}}, 41)}
}

func checkRun(t *testing.T, code []impl.Instr, m impl.Machine, fuel int) {
	t.Helper()
	want := runBy(code, m, fuel)
	end, steps, done := impl.RunMachine(code, m, fuel)
	if !sameMachine(end, want.end) || steps != want.steps || done != want.done {
		t.Fatalf("RunMachine(%v, %v, %d) = %v, %d, %v, not %v, %d, %v", code, m, fuel, end, steps, done, want.end, want.steps, want.done)
	}
	if trace := impl.TraceOf(code, m, fuel); !slices.Equal(trace, want.trace) {
		t.Fatalf("TraceOf(%v, %v, %d) = %v, not %v", code, m, fuel, trace, want.trace)
	}
	if jumps := impl.JumpsOf(code, m, fuel); !slices.Equal(jumps, want.jumps) {
		t.Fatalf("JumpsOf(%v, %v, %d) = %v, not %v", code, m, fuel, jumps, want.jumps)
	}
	if places := impl.PlacesOf(code, m, fuel); !slices.Equal(places, want.places) {
		t.Fatalf("PlacesOf(%v, %v, %d) = %v, not %v", code, m, fuel, places, want.places)
	}
}

// Runs of all kinds are those that are worked out here, with no fuel, with some, and with all.
func TestRuns(t *testing.T) {
	if impl.MaxFuel != 300 {
		t.Errorf("MaxFuel = %d", impl.MaxFuel)
	}
	for _, j := range journeys(t) {
		for _, fuel := range []int{0, 1, 2, 3, 17, 40, 299, 300} {
			checkRun(t, j.code, j.m, fuel)
		}
	}
}

// Each instruction steps as it is worked out here.
func TestStepsOfAllInstructions(t *testing.T) {
	g := lcg(3)
	for _, e := range allEntries() {
		code := slices.Repeat([]impl.Instr{e.c}, 40)
		for _, at := range []int{0, 1, 38, 39} {
			m := someMachine(&g, at)
			want, valid := stepBy(code, m)
			if got, ok := impl.StepMachine(code, m); ok != valid || !sameMachine(got, want) {
				t.Fatalf("StepMachine by %q of %v = %v, %v, not %v", e.text, m, got, ok, want)
			}
		}
	}
}

// Sums, differences, products and orders of all words are right, and go round from 0 on.
func TestNumbersGoRound(t *testing.T) {
	code := codeOf(t, "add r0 r2 r3/sub r1 r2 r3/lt r1 r2 r3/mul r0 r2 r3")
	for a := range 256 {
		for b := range 256 {
			for at := range code {
				m := machineAt(at, [4]int{9, 9, a, b}, [8]int{})
				want, _ := stepBy(code, m)
				if got, ok := impl.StepMachine(code, m); !ok || !sameMachine(got, want) {
					t.Fatalf("StepMachine by %v of %v = %v", code[at], m, got)
				}
			}
		}
	}
}

// Cells go round the memory, for each number and each K.
func TestCellsGoRound(t *testing.T) {
	for a := range 256 {
		for k := range 8 {
			mem := [8]int{10, 11, 12, 13, 14, 15, 16, 17}
			m := machineAt(0, [4]int{a, 99, 0, 0}, mem)
			cell := (a + k) % 8
			ld := []impl.Instr{{Op: "ld", D: 1, A: 0, K: k}}
			if got, ok := impl.StepMachine(ld, m); !ok || got.Regs[1] != 10+cell || !slices.Equal(got.Mem, m.Mem) {
				t.Fatalf("ld of %d and %d: %v", a, k, got)
			}
			if places := impl.PlacesOf(ld, m, 1); !slices.Equal(places, []int{cell}) {
				t.Fatalf("PlacesOf ld of %d and %d: %v", a, k, places)
			}
			st := []impl.Instr{{Op: "st", D: 1, A: 0, K: k}}
			mem[cell] = 99
			if got, ok := impl.StepMachine(st, m); !ok || !slices.Equal(got.Mem, mem[:]) || !slices.Equal(got.Regs, m.Regs) {
				t.Fatalf("st of %d and %d: %v", a, k, got)
			}
			if places := impl.PlacesOf(st, m, 1); !slices.Equal(places, []int{cell + 8}) {
				t.Fatalf("PlacesOf st of %d and %d: %v", a, k, places)
			}
		}
	}
}

// There is no step at hlt, at the end of the program and behind it, and the run is done there at once.
func TestProgramsAtTheirEnd(t *testing.T) {
	for size := 0; size <= 40; size++ {
		code := slices.Repeat([]impl.Instr{{Op: "hlt"}}, size)
		for at := 0; at <= 40; at++ {
			m := machineAt(at, [4]int{1, 2, 3, 4}, [8]int{5})
			if got, ok := impl.StepMachine(code, m); ok || !isNoMachine(got) {
				t.Fatalf("StepMachine of %d hlt at %d = %v, %v", size, at, got, ok)
			}
			for _, fuel := range []int{0, 300} {
				if end, steps, done := impl.RunMachine(code, m, fuel); !done || steps != 0 || !sameMachine(end, m) {
					t.Fatalf("RunMachine of %d hlt at %d = %v, %d, %v", size, at, end, steps, done)
				}
			}
		}
	}
	full := slices.Repeat([]impl.Instr{{Op: "set", D: 2, K: 7}}, 40)
	if end, steps, done := impl.RunMachine(full, impl.NewMachine(), 40); !done || steps != 40 || end.At != 40 || !impl.ValidMachine(end) {
		t.Errorf("RunMachine of a full program = %v, %d, %v", end, steps, done)
	}
	if end, steps, done := impl.RunMachine(full, impl.NewMachine(), 39); done || steps != 39 || end.At != 39 {
		t.Errorf("RunMachine of a full program with 39 = %v, %d, %v", end, steps, done)
	}
}

// P9: registers that are not written stay, and with other numbers in those that are not read the same is written.
func TestWhatIsNotReadDoesNotMatter(t *testing.T) {
	g := lcg(9)
	for _, e := range allEntries() {
		if e.c.Op == "hlt" {
			continue
		}
		code := slices.Repeat([]impl.Instr{e.c}, 40)
		reads, writes := impl.UsesOf(e.c)
		for range 4 {
			m := someMachine(&g, g.below(40))
			other := copyOf(m)
			for r := range 4 {
				if reads>>r&1 == 0 {
					other.Regs[r] = g.below(256)
				}
			}
			got, ok := impl.StepMachine(code, m)
			gotOther, okOther := impl.StepMachine(code, other)
			if !ok || !okOther || got.At != gotOther.At || !slices.Equal(got.Mem, gotOther.Mem) {
				t.Fatalf("StepMachine by %q of %v = %v, and of %v = %v", e.text, m, got, other, gotOther)
			}
			for r := range 4 {
				if writes>>r&1 == 0 && (got.Regs[r] != m.Regs[r] || gotOther.Regs[r] != other.Regs[r]) {
					t.Fatalf("StepMachine by %q of %v changes register %d: %v", e.text, m, r, got)
				}
				if writes>>r&1 == 1 && got.Regs[r] != gotOther.Regs[r] {
					t.Fatalf("StepMachine by %q writes %d, and with others %d", e.text, got.Regs[r], gotOther.Regs[r])
				}
			}
		}
	}
}

// P10: a machine that is valid is so at the beginning, and at each place up to the last one.
func TestMachinesBeginAnew(t *testing.T) {
	g := lcg(10)
	for at := 0; at <= 40; at++ {
		for range 20 {
			m := someMachine(&g, at)
			if !impl.ValidMachine(m) {
				t.Fatalf("ValidMachine(%v) = false", m)
			}
			m.At = 0
			if !impl.ValidMachine(m) {
				t.Fatalf("ValidMachine(%v) = false at the beginning", m)
			}
		}
	}
	for i, m := range wrongMachines() {
		if impl.ValidMachine(m) {
			t.Errorf("ValidMachine(%v) = true, machine %d", m, i)
		}
	}
	if m := machineAt(40, [4]int{255, 255, 255, 255}, [8]int{255, 255, 255, 255, 255, 255, 255, 255}); !impl.ValidMachine(m) {
		t.Errorf("ValidMachine(%v) = false", m)
	}
}

// P11: the new machine is valid, with noughts alone, and new each time.
func TestNewMachine(t *testing.T) {
	m := impl.NewMachine()
	if !impl.ValidMachine(m) || !sameMachine(m, machineAt(0, [4]int{}, [8]int{})) {
		t.Errorf("NewMachine = %v", m)
	}
	m.Regs[0], m.Mem[0] = 1, 2
	if n := impl.NewMachine(); n.Regs[0] != 0 || n.Mem[0] != 0 {
		t.Errorf("NewMachine = %v behind another one", n)
	}
}

// P13: a run that goes on is the run with the fuel of both, and it is done exactly if there is no step.
func TestRunsGoOn(t *testing.T) {
	for _, j := range journeys(t) {
		for _, first := range []int{0, 1, 5, 150, 300} {
			for _, more := range []int{0, 1, 7, 150, 300 - first} {
				if more < 0 || first+more > 300 {
					continue
				}
				half, steps, done := impl.RunMachine(j.code, j.m, first)
				if _, there := impl.StepMachine(j.code, half); there == done {
					t.Fatalf("RunMachine(%v, %v, %d) is done: %v", j.code, j.m, first, done)
				}
				end, stepsMore, done := impl.RunMachine(j.code, half, more)
				whole, stepsWhole, doneWhole := impl.RunMachine(j.code, j.m, first+more)
				if !sameMachine(end, whole) || steps+stepsMore != stepsWhole || done != doneWhole {
					t.Fatalf("RunMachine(%v, %v) of %d and %d = %v, not %v", j.code, j.m, first, more, end, whole)
				}
			}
		}
	}
}

// P15: there are as many jumps as bz in the trace.
func TestJumpsAreInTheTrace(t *testing.T) {
	seen := map[bool]int{}
	for _, j := range journeys(t) {
		for _, fuel := range []int{0, 1, 9, 300} {
			count := 0
			for _, at := range impl.TraceOf(j.code, j.m, fuel) {
				if j.code[at].Op == "bz" {
					count++
				}
			}
			jumps := impl.JumpsOf(j.code, j.m, fuel)
			if len(jumps) != count {
				t.Fatalf("JumpsOf(%v, %v, %d) = %v, not %d", j.code, j.m, fuel, jumps, count)
			}
			for _, jump := range jumps {
				seen[jump]++
			}
		}
	}
	if seen[true] < 100 || seen[false] < 100 {
		t.Errorf("jumps that are seen: %v", seen)
	}
}

// P16: there are as many places as ld and st in the trace, those of st with as many cells more.
func TestPlacesAreInTheTrace(t *testing.T) {
	for _, j := range journeys(t) {
		for _, fuel := range []int{0, 1, 9, 300} {
			var writes []bool
			for _, at := range impl.TraceOf(j.code, j.m, fuel) {
				if op := j.code[at].Op; op == "ld" || op == "st" {
					writes = append(writes, op == "st")
				}
			}
			places := impl.PlacesOf(j.code, j.m, fuel)
			if len(places) != len(writes) {
				t.Fatalf("PlacesOf(%v, %v, %d) = %v, not %d", j.code, j.m, fuel, places, len(writes))
			}
			for i, place := range places {
				if place < 0 || place >= 16 || place >= 8 != writes[i] {
					t.Fatalf("PlacesOf(%v, %v, %d) = %v, and writes %v", j.code, j.m, fuel, places, writes)
				}
			}
		}
	}
}

func checkNoRun(t *testing.T, code []impl.Instr, m impl.Machine, fuel int) {
	t.Helper()
	if end, steps, done := impl.RunMachine(code, m, fuel); !isNoMachine(end) || steps != -1 || done {
		t.Errorf("RunMachine(%v, %v, %d) = %v, %d, %v", code, m, fuel, end, steps, done)
	}
	if len(impl.TraceOf(code, m, fuel)) != 0 || len(impl.JumpsOf(code, m, fuel)) != 0 || len(impl.PlacesOf(code, m, fuel)) != 0 {
		t.Errorf("TraceOf, JumpsOf or PlacesOf of %v, %v, %d", code, m, fuel)
	}
}

// What is no program, no machine or no fuel is not run.
func TestNoRuns(t *testing.T) {
	good := codeOf(t, "bz r0 1/ld r0 r0 0/st r1 r1 1/set r2 3")
	m := impl.NewMachine()
	for _, fuel := range []int{-1, 301, math.MaxInt, math.MinInt} {
		checkNoRun(t, good, m, fuel)
		checkNoRun(t, nil, m, fuel)
	}
	for _, wrong := range wrongMachines() {
		checkNoRun(t, good, wrong, 5)
		checkNoRun(t, nil, wrong, 0)
		if got, ok := impl.StepMachine(good, wrong); ok || !isNoMachine(got) {
			t.Errorf("StepMachine of %v = %v, %v", wrong, got, ok)
		}
	}
	for _, wrong := range wrongCodes() {
		checkNoRun(t, wrong, m, 5)
		checkNoRun(t, wrong, m, 0)
		if got, ok := impl.StepMachine(wrong, m); ok || !isNoMachine(got) {
			t.Errorf("StepMachine by %v = %v, %v", wrong, got, ok)
		}
	}
	// A program is wrong as a whole, even if the wrong instruction is never reached.
	checkNoRun(t, []impl.Instr{{Op: "hlt"}, {Op: "nop"}}, m, 5)
}

// Machines that are given stay as they are, and those that are returned have memory of their own.
func TestMachinesOfTheirOwn(t *testing.T) {
	code := codeOf(t, "set r1 5/st r1 r1 0/hlt")
	m := machineAt(0, [4]int{1, 2, 3, 4}, [8]int{1, 2, 3, 4, 5, 6, 7, 8})
	before := copyOf(m)
	stepped, _ := impl.StepMachine(code, m)
	end, _, _ := impl.RunMachine(code, m, 300)
	still, _, _ := impl.RunMachine(code, m, 0)
	for _, got := range []impl.Machine{stepped, end, still} {
		for _, list := range [][]int{got.Regs, got.Mem} {
			for i := range list[:cap(list)] {
				list[:cap(list)][i] = 77
			}
		}
	}
	if !sameMachine(m, before) {
		t.Errorf("the machine that was given is now %v", m)
	}
	got, _, _ := impl.RunMachine(code, m, 300)
	for i := range got.Regs[:cap(got.Regs)] {
		got.Regs[:cap(got.Regs)][i] = 77
	}
	if got.Mem[5] != 5 || got.Mem[0] != 1 {
		t.Errorf("memory and registers are one: %v", got)
	}
	if list := impl.TraceOf(code, m, 300); !slices.Equal(list, []int{0, 1}) {
		t.Errorf("TraceOf = %v", list)
	}
	if !sameCode(code, codeOf(t, "set r1 5/st r1 r1 0/hlt")) {
		t.Errorf("the program that was given is now %v", code)
	}
}
