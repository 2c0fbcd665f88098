package tests

import (
	"math"
	"slices"
	"strconv"
	"strings"
	"testing"

	"loop.example/smallmachines/impl"
)

// flow is all that the functions of chapter 4 are to return for a program.
type flow struct {
	next    [][]int
	reach   []bool
	leaders []int
	doms    []int
	loops   [][]int
	live    []int
	dropped []impl.Instr
	shrunk  []impl.Instr
	blocks  [][]int
}

// nextBy is what the document says of what comes next, written out anew here.
func nextBy(code []impl.Instr, i int) []int {
	c := code[i]
	switch {
	case c.Op == "hlt":
		return nil
	case c.Op == "jmp":
		return []int{c.K}
	case c.Op == "bz" && c.K != i+1:
		return []int{i + 1, c.K}
	}
	return []int{i + 1}
}

// reachBy finds what is reached from ways that are put together of two others.
func reachBy(next [][]int) []bool {
	size := len(next) + 1
	ways := make([][]bool, size)
	for i := range ways {
		ways[i] = make([]bool, size)
		ways[i][i] = true
		if i < len(next) {
			for _, k := range next[i] {
				ways[i][k] = true
			}
		}
	}
	for through := range size {
		for i := range size {
			for k := range size {
				ways[i][k] = ways[i][k] || ways[i][through] && ways[through][k]
			}
		}
	}
	return ways[0]
}

func leadersBy(code []impl.Instr) []int {
	var leaders []int
	for i := range code {
		begins := i == 0 || slices.Contains([]string{"bz", "jmp", "hlt"}, code[i-1].Op)
		for _, c := range code {
			begins = begins || (c.Op == "bz" || c.Op == "jmp") && c.K == i
		}
		if begins {
			leaders = append(leaders, i)
		}
	}
	return leaders
}

// domsBy finds what is on all ways as what is on all ways to all from which it comes, until nothing is taken out.
func domsBy(next [][]int, reach []bool) []int {
	sets := make([]int, len(next))
	for i := range sets {
		if reach[i] {
			sets[i] = 1<<len(next) - 1
		}
	}
	for again := true; again; {
		again = false
		for i := range sets {
			set := sets[i]
			if i == 0 {
				set = 0
			}
			for from := range next {
				if reach[from] && slices.Contains(next[from], i) {
					set &= sets[from]
				}
			}
			if set |= 1 << i; reach[i] && set != sets[i] {
				sets[i], again = set, true
			}
		}
	}
	return sets
}

func loopsBy(next [][]int, doms []int) [][]int {
	var loops [][]int
	for i := range next {
		for k := range next {
			if slices.Contains(next[i], k) && doms[i]>>k&1 == 1 {
				loops = append(loops, []int{i, k})
			}
		}
	}
	return loops
}

// usesBy are the registers that all instructions read and write, as they are written out for the first stage.
var usesBy = func() map[impl.Instr]entry {
	uses := map[impl.Instr]entry{}
	for _, e := range allEntries() {
		uses[e.c] = e
	}
	return uses
}()

// liveBy finds what is needed as what is needed by all that comes next, until nothing is put in.
func liveBy(code []impl.Instr, next [][]int) []int {
	sets := make([]int, len(code)+1)
	for range len(code) + 1 {
		for i, c := range code {
			behind := 0
			for _, k := range next[i] {
				behind |= sets[k]
			}
			sets[i] = usesBy[c].reads | behind&(15-usesBy[c].writes)
		}
	}
	return sets
}

// dropBy drops what is neither reached nor needed.
func dropBy(code []impl.Instr, reach []bool, live []int) []impl.Instr {
	var kept []int
	for i, c := range code {
		if writes := usesBy[c].writes; reach[i] && writes&live[i+1] == writes {
			kept = append(kept, i)
		}
	}
	var left []impl.Instr
	for _, i := range kept {
		c := code[i]
		if c.Op == "bz" || c.Op == "jmp" {
			to := slices.IndexFunc(kept, func(k int) bool { return k >= c.K })
			if to < 0 {
				to = len(kept)
			}
			c.K = to
		}
		left = append(left, c)
	}
	return left
}

func blocksBy(next [][]int, leaders []int) [][]int {
	var blocks [][]int
	for n, first := range leaders {
		behind := len(next)
		if n+1 < len(leaders) {
			behind = leaders[n+1]
		}
		block := []int{first, behind}
		for k := range len(next) + 1 {
			if slices.Contains(next[behind-1], k) {
				block = append(block, k)
			}
		}
		blocks = append(blocks, block)
	}
	return blocks
}

func flowBy(code []impl.Instr) flow {
	var f flow
	for i := range code {
		f.next = append(f.next, nextBy(code, i))
	}
	f.reach = reachBy(f.next)
	f.leaders = leadersBy(code)
	f.doms = domsBy(f.next, f.reach)
	f.loops = loopsBy(f.next, f.doms)
	f.live = liveBy(code, f.next)
	f.dropped = dropBy(code, f.reach, f.live)
	f.shrunk = f.dropped
	if len(f.dropped) < len(code) {
		f.shrunk = flowBy(f.dropped).shrunk
	}
	f.blocks = blocksBy(f.next, f.leaders)
	return f
}

// flowOf returns all that the functions of chapter 4 return for a program.
func flowOf(code []impl.Instr) flow {
	f := flow{nil, impl.ReachOf(code), impl.LeadersOf(code), impl.DomsOf(code), impl.LoopsOf(code), impl.LiveOf(code), impl.DropDead(code), impl.ShrinkCode(code), impl.BlocksOf(code)}
	for i := range code {
		f.next = append(f.next, impl.NextOf(code, i))
	}
	return f
}

func sameRows(a, b [][]int) bool {
	return slices.EqualFunc(a, b, slices.Equal[[]int])
}

func checkFlow(t *testing.T, code []impl.Instr) {
	t.Helper()
	got, want := flowOf(code), flowBy(code)
	text := strings.ReplaceAll(impl.ShowCode(code), "\n", "/")
	if !sameRows(got.next, want.next) {
		t.Fatalf("NextOf %q = %v, not %v", text, got.next, want.next)
	}
	if !slices.Equal(got.reach, want.reach) {
		t.Fatalf("ReachOf %q = %v, not %v", text, got.reach, want.reach)
	}
	if !slices.Equal(got.leaders, want.leaders) {
		t.Fatalf("LeadersOf %q = %v, not %v", text, got.leaders, want.leaders)
	}
	if !slices.Equal(got.doms, want.doms) {
		t.Fatalf("DomsOf %q = %v, not %v", text, got.doms, want.doms)
	}
	if !sameRows(got.loops, want.loops) {
		t.Fatalf("LoopsOf %q = %v, not %v", text, got.loops, want.loops)
	}
	if !slices.Equal(got.live, want.live) {
		t.Fatalf("LiveOf %q = %v, not %v", text, got.live, want.live)
	}
	if !sameCode(got.dropped, want.dropped) {
		t.Fatalf("DropDead %q = %v, not %v", text, got.dropped, want.dropped)
	}
	if !sameCode(got.shrunk, want.shrunk) {
		t.Fatalf("ShrinkCode %q = %v, not %v", text, got.shrunk, want.shrunk)
	}
	if !sameRows(got.blocks, want.blocks) {
		t.Fatalf("BlocksOf %q = %v, not %v", text, got.blocks, want.blocks)
	}
}

// compiledSamples returns the programs of sources, in which there are loops and choices of all kinds.
func compiledSamples() [][]impl.Instr {
	var codes [][]impl.Instr
	for _, s := range samples() {
		code, _ := impl.CompileSource(s.text)
		codes = append(codes, code)
	}
	return codes
}

// jumpyCode returns a program in which every other instruction is a jump, or halts.
func jumpyCode(g *lcg, size int, list []entry) []impl.Instr {
	code := livelyCode(g, size, list)
	for i := range code {
		switch k := g.below(size + 1); g.below(8) {
		case 0, 1, 2:
			code[i] = impl.Instr{Op: "bz", A: g.below(4), K: k}
		case 3:
			code[i] = impl.Instr{Op: "jmp", K: k}
		case 4:
			code[i] = impl.Instr{Op: "hlt"}
		}
	}
	return code
}

// flowCodes returns programs of all sizes and kinds.
func flowCodes(t *testing.T) [][]impl.Instr {
	g := lcg(4)
	list := allEntries()
	codes := append(manyCodes(), compiledSamples()...)
	for _, j := range journeys(t) {
		codes = append(codes, j.code)
	}
	for size := 1; size <= 40; size++ {
		for range 8 {
			codes = append(codes, jumpyCode(&g, size, list))
		}
	}
	return codes
}

// walks returns the programs of flowCodes with machines at their beginning.
func walks(t *testing.T) []journey {
	g := lcg(41)
	var all []journey
	for _, code := range flowCodes(t) {
		for range 2 {
			all = append(all, journey{code, someMachine(&g, 0)})
		}
	}
	return all
}

func TestFlowOfAllKinds(t *testing.T) {
	for _, code := range flowCodes(t) {
		checkFlow(t, code)
	}
}

// eachCode does something with each row of as many of the instructions with the texts.
func eachCode(t *testing.T, size int, texts []string, do func(code []impl.Instr)) {
	for k := range size + 1 {
		texts = append(texts, "bz r0 "+strconv.Itoa(k), "jmp "+strconv.Itoa(k))
	}
	var instrs []impl.Instr
	for _, text := range texts {
		c, ok := impl.ReadInstr(text)
		if !ok {
			t.Fatalf("ReadInstr(%q)", text)
		}
		instrs = append(instrs, c)
	}
	code := make([]impl.Instr, size)
	total := int(math.Pow(float64(len(instrs)), float64(size)))
	for n := range total {
		for i := range code {
			code[i] = instrs[n%len(instrs)]
			n /= len(instrs)
		}
		do(code)
	}
}

// All short programs of some instructions have the flow that is worked out here.
func TestFlowOfAllShortPrograms(t *testing.T) {
	check := func(code []impl.Instr) { checkFlow(t, code) }
	for size := range 4 {
		eachCode(t, size, []string{"hlt", "set r0 1", "set r1 1", "add r0 r0 r1", "lt r1 r0 r0", "ld r1 r0 0", "st r0 r1 0", "st r0 r0 0"}, check)
	}
	eachCode(t, 4, []string{"hlt", "set r0 1", "st r1 r0 0"}, check)
}

func TestProgramsWithoutInstructions(t *testing.T) {
	for _, code := range [][]impl.Instr{nil, {}} {
		checkFlow(t, code)
		if there := impl.ReachOf(code); !slices.Equal(there, []bool{true}) {
			t.Errorf("ReachOf = %v", there)
		}
		if live := impl.LiveOf(code); !slices.Equal(live, []int{0}) {
			t.Errorf("LiveOf = %v", live)
		}
		if len(impl.LeadersOf(code)) != 0 || len(impl.DomsOf(code)) != 0 || len(impl.LoopsOf(code)) != 0 || len(impl.DropDead(code)) != 0 || len(impl.ShrinkCode(code)) != 0 || len(impl.BlocksOf(code)) != 0 || len(impl.NextOf(code, 0)) != 0 {
			t.Errorf("flow of no instructions = %v", flowOf(code))
		}
	}
}

// checkRows fails if the flow of a program is not as written.
func checkRows(t *testing.T, s string, reach string, doms, live []int, loops, blocks [][]int, shrunk string) {
	t.Helper()
	code := codeOf(t, s)
	f := flowOf(code)
	there := ""
	for _, yes := range f.reach {
		there += map[bool]string{true: "x", false: "."}[yes]
	}
	left := strings.TrimSuffix(strings.ReplaceAll(impl.ShowCode(f.shrunk), "\n", "/"), "/")
	if there != reach || !slices.Equal(f.doms, doms) || !slices.Equal(f.live, live) || !sameRows(f.loops, loops) || !sameRows(f.blocks, blocks) || left != shrunk {
		t.Errorf("flow of %q = %q, %v, %v, %v, %v, %q", s, there, f.doms, f.live, f.loops, f.blocks, left)
	}
}

func TestJumpsToThemselves(t *testing.T) {
	checkRows(t, "jmp 0", "x.", []int{1}, []int{0, 0}, [][]int{{0, 0}}, [][]int{{0, 1, 0}}, "jmp 0")
	checkRows(t, "bz r2 0", "xx", []int{1}, []int{4, 0}, [][]int{{0, 0}}, [][]int{{0, 1, 0, 1}}, "bz r2 0")
	checkRows(t, "set r1 3/bz r1 1", "xxx", []int{1, 3}, []int{0, 2, 0}, [][]int{{1, 1}}, [][]int{{0, 1, 1}, {1, 2, 1, 2}}, "set r1 3/bz r1 1")
	checkRows(t, "bz r0 1", "xx", []int{1}, []int{1, 0}, nil, [][]int{{0, 1, 1}}, "bz r0 1")
	checkRows(t, "jmp 1", "xx", []int{1}, []int{0, 0}, nil, [][]int{{0, 1, 1}}, "jmp 1")
	// A jump to itself that is not reached is no loop.
	checkRows(t, "hlt/jmp 1", "x..", []int{1, 0}, []int{0, 0, 0}, nil, [][]int{{0, 1}, {1, 2, 1}}, "hlt")
	// Numbers that only a loop without end makes are not needed.
	checkRows(t, "set r0 1/add r1 r1 r0/jmp 1", "xxx.", []int{1, 3, 7}, []int{2, 3, 3, 0}, [][]int{{2, 1}}, [][]int{{0, 1, 1}, {1, 3, 1}}, "set r0 1/add r1 r1 r0/jmp 1")
	checkRows(t, "set r0 1/set r0 2/jmp 1", "xxx.", []int{1, 3, 7}, []int{0, 0, 0, 0}, [][]int{{2, 1}}, [][]int{{0, 1, 1}, {1, 3, 1}}, "jmp 0")
	for size := 1; size <= 40; size++ {
		for _, at := range []int{0, size / 2, size - 1} {
			code := slices.Repeat([]impl.Instr{{Op: "st"}}, size)
			code[at] = impl.Instr{Op: "jmp", K: at}
			checkFlow(t, code)
			code[at] = impl.Instr{Op: "bz", A: 1, K: at}
			checkFlow(t, code)
			if loops := impl.LoopsOf(code); !sameRows(loops, [][]int{{at, at}}) {
				t.Errorf("LoopsOf %d at %d = %v", size, at, loops)
			}
		}
	}
}

func TestWhatIsNotReached(t *testing.T) {
	checkRows(t, "hlt", "x.", []int{1}, []int{0, 0}, nil, [][]int{{0, 1}}, "hlt")
	checkRows(t, "jmp 2/st r1 r2 0/hlt/st r3 r3 1", "x.x..", []int{1, 0, 5, 0}, []int{0, 6, 0, 8, 0}, nil, [][]int{{0, 1, 2}, {1, 2, 2}, {2, 3}, {3, 4, 4}}, "jmp 1/hlt")
	// What is not reached is on no way to others, but registers are needed ahead of it too.
	checkRows(t, "set r0 1/jmp 3/jmp 4/set r1 2/st r1 r0 0", "xx.xxx", []int{1, 3, 0, 11, 27}, []int{0, 1, 3, 1, 3, 0}, nil, [][]int{{0, 2, 3}, {2, 3, 4}, {3, 4, 4}, {4, 5, 5}}, "set r0 1/jmp 2/set r1 2/st r1 r0 0")
	// Two ways of which none goes through both, and a loop that is entered at two places.
	checkRows(t, "bz r0 3/set r1 1/jmp 4/set r1 2/st r1 r0 0", "xxxxxx", []int{1, 3, 7, 9, 17}, []int{1, 1, 3, 1, 3, 0}, nil, [][]int{{0, 1, 1, 3}, {1, 3, 4}, {3, 4, 4}, {4, 5, 5}}, "bz r0 3/set r1 1/jmp 4/set r1 2/st r1 r0 0")
	checkRows(t, "bz r0 2/sub r0 r0 r1/bz r0 1", "xxxx", []int{1, 3, 5}, []int{3, 3, 3, 0}, nil, [][]int{{0, 1, 1, 2}, {1, 2, 2}, {2, 3, 1, 3}}, "bz r0 2/sub r0 r0 r1/bz r0 1")
	// Both of what comes next are on all ways.
	checkRows(t, "jmp 2/bz r0 0/jmp 1", "xxx.", []int{1, 7, 5}, []int{1, 1, 1, 0}, [][]int{{1, 0}, {1, 2}}, [][]int{{0, 1, 2}, {1, 2, 0, 2}, {2, 3, 1}}, "jmp 2/bz r0 0/jmp 1")
	// What is dropped leads to what is left behind it, or to the end.
	checkRows(t, "bz r0 2/jmp 4/set r3 1/hlt/set r2 1", "xxxxxx", []int{1, 3, 5, 13, 19}, []int{1, 0, 0, 0, 0, 0}, nil, [][]int{{0, 1, 1, 2}, {1, 2, 4}, {2, 4}, {4, 5, 5}}, "bz r0 2/jmp 3/hlt")
	checkRows(t, "set r1 1/add r2 r1 r1/mul r3 r2 r2/ld r0 r3 0", "xxxxx", []int{1, 3, 7, 15}, []int{0, 2, 4, 8, 0}, nil, [][]int{{0, 4, 4}}, "")
	full := slices.Repeat([]impl.Instr{{Op: "set", D: 2, K: 7}}, 40)
	full[0] = impl.Instr{Op: "jmp", K: 40}
	checkFlow(t, full)
	if left := impl.DropDead(full); !sameCode(left, []impl.Instr{{Op: "jmp", K: 1}}) {
		t.Errorf("DropDead = %v", left)
	}
	long := slices.Repeat([]impl.Instr{{Op: "st"}}, 40)
	if doms := impl.DomsOf(long); len(doms) != 40 || doms[39] != 1<<40-1 {
		t.Errorf("DomsOf = %v", doms)
	}
}

// P12: a step leads to a machine that is valid, and at one of what comes next.
func TestStepsLeadToWhatComesNext(t *testing.T) {
	for _, j := range append(journeys(t), walks(t)...) {
		m := j.m
		for range 50 {
			next := impl.NextOf(j.code, m.At)
			stepped, ok := impl.StepMachine(j.code, m)
			if ok != (len(next) > 0) {
				t.Fatalf("StepMachine(%v, %v) = %v, and NextOf = %v", j.code, m, ok, next)
			}
			if !ok {
				break
			}
			if !impl.ValidMachine(stepped) || !slices.Contains(next, stepped.At) {
				t.Fatalf("StepMachine(%v, %v) = %v, and NextOf = %v", j.code, m, stepped, next)
			}
			m = stepped
		}
	}
}

// P14: there is a place in the trace for each step, and each leads to the one behind it.
func TestTracesAreRuns(t *testing.T) {
	for _, j := range append(journeys(t), walks(t)...) {
		for _, fuel := range []int{0, 1, 9, 300} {
			trace := impl.TraceOf(j.code, j.m, fuel)
			end, steps, _ := impl.RunMachine(j.code, j.m, fuel)
			if len(trace) != steps {
				t.Fatalf("TraceOf(%v, %v, %d) = %v, of %d steps", j.code, j.m, fuel, trace, steps)
			}
			at := j.m.At
			for i, behind := range append(trace, end.At) {
				if i > 0 && !slices.Contains(impl.NextOf(j.code, at), behind) || i == 0 && at != behind {
					t.Fatalf("TraceOf(%v, %v, %d) = %v", j.code, j.m, fuel, trace)
				}
				at = behind
			}
		}
	}
}

// P24: what comes next ascends, but for a jump back, and is in the program or its end.
func TestWhatComesNext(t *testing.T) {
	for _, code := range flowCodes(t) {
		for i := range code {
			next := impl.NextOf(code, i)
			if len(next) > 2 || len(next) == 2 && next[0] >= next[1] && next[1] > i {
				t.Fatalf("NextOf(%v, %d) = %v", code, i, next)
			}
			for _, k := range next {
				if k < 0 || k > len(code) {
					t.Fatalf("NextOf(%v, %d) = %v", code, i, next)
				}
			}
		}
		for _, i := range []int{-1, len(code), len(code) + 1, 40, 41, math.MaxInt, math.MinInt} {
			if next := impl.NextOf(code, i); len(next) != 0 {
				t.Fatalf("NextOf(%v, %d) = %v", code, i, next)
			}
		}
	}
	code := codeOf(t, "set r0 1/bz r1 0/bz r2 2/bz r3 4/jmp 0/hlt/bz r0 7")
	for i, want := range [][]int{{1}, {2, 0}, {3, 2}, {4}, {0}, nil, {7}} {
		if next := impl.NextOf(code, i); !slices.Equal(next, want) {
			t.Errorf("NextOf %d = %v, not %v", i, next, want)
		}
	}
}

// P25: what is stepped from the beginning on is reached, and where the run stands at last, and what comes next of what is reached.
func TestWhatIsSteppedIsReached(t *testing.T) {
	for _, j := range walks(t) {
		there := impl.ReachOf(j.code)
		end, _, _ := impl.RunMachine(j.code, j.m, 300)
		for _, at := range append(impl.TraceOf(j.code, j.m, 300), end.At) {
			if !there[at] {
				t.Fatalf("ReachOf(%v) = %v, but %d is stepped", j.code, there, at)
			}
		}
		for i := range j.code {
			for _, next := range impl.NextOf(j.code, i) {
				if there[i] && !there[next] {
					t.Fatalf("ReachOf(%v) = %v, but %d comes next", j.code, there, next)
				}
			}
		}
	}
}

// P26: blocks begin where it is not gone on by one more.
func TestJumpsLeadToLeaders(t *testing.T) {
	for _, code := range flowCodes(t) {
		leaders := impl.LeadersOf(code)
		if len(code) > 0 && (len(leaders) == 0 || leaders[0] != 0) {
			t.Fatalf("LeadersOf(%v) = %v", code, leaders)
		}
		for i := 1; i < len(leaders); i++ {
			if leaders[i-1] >= leaders[i] || leaders[i] >= len(code) {
				t.Fatalf("LeadersOf(%v) = %v", code, leaders)
			}
		}
		for i := range code {
			for _, next := range impl.NextOf(code, i) {
				if next != i+1 && next != len(code) && !slices.Contains(leaders, next) {
					t.Fatalf("LeadersOf(%v) = %v, without %d", code, leaders, next)
				}
			}
		}
	}
}

// P27: a trace has gone through all that is on all ways to where it is.
func TestTracesGoThroughWhatTheyMust(t *testing.T) {
	for _, j := range walks(t) {
		doms := impl.DomsOf(j.code)
		passed := 0
		for _, at := range impl.TraceOf(j.code, j.m, 300) {
			passed |= 1 << at
			if doms[at]&^passed != 0 || doms[at]>>at&1 == 0 || doms[at]&1 == 0 {
				t.Fatalf("DomsOf(%v) = %v, but %d is come to through %d", j.code, doms, at, passed)
			}
		}
	}
}

// P28: loops are ways back to what is on all ways to where they are.
func TestLoopsLeadBack(t *testing.T) {
	found := 0
	for _, code := range flowCodes(t) {
		doms := impl.DomsOf(code)
		for _, loop := range impl.LoopsOf(code) {
			found++
			if len(loop) != 2 || !slices.Contains(impl.NextOf(code, loop[0]), loop[1]) || doms[loop[0]]>>loop[1]&1 == 0 {
				t.Fatalf("LoopsOf(%v) = %v", code, impl.LoopsOf(code))
			}
		}
	}
	if found < 1000 {
		t.Errorf("%d loops", found)
	}
	for _, s := range samples() {
		code, _ := impl.CompileSource(s.text)
		if loops := impl.LoopsOf(code); len(loops) > strings.Count(s.text, "while") {
			t.Errorf("LoopsOf %q = %v", s.text, loops)
		}
	}
}

// P29: with other numbers in what is not needed ahead of where the machine is, it does the same to the memory.
func TestWhatIsNotNeededDoesNotMatter(t *testing.T) {
	g := lcg(29)
	changed := 0
	for _, j := range append(journeys(t), walks(t)...) {
		live := impl.LiveOf(j.code)
		other := copyOf(j.m)
		for r := range 4 {
			if j.m.At > len(j.code) || live[j.m.At]>>r&1 == 0 {
				other.Regs[r] = g.below(256)
			}
		}
		if !slices.Equal(other.Regs, j.m.Regs) {
			changed++
		}
		for _, fuel := range []int{1, 9, 300} {
			end, steps, done := impl.RunMachine(j.code, j.m, fuel)
			endOther, stepsOther, doneOther := impl.RunMachine(j.code, other, fuel)
			if end.At != endOther.At || steps != stepsOther || done != doneOther || !slices.Equal(end.Mem, endOther.Mem) {
				t.Fatalf("RunMachine(%v) of %v = %v, and of %v = %v", j.code, j.m, end, other, endOther)
			}
		}
	}
	if changed < 2000 {
		t.Errorf("%d machines are changed", changed)
	}
}

// storesOf returns the cells that are written, in order.
func storesOf(j journey, code []impl.Instr) []int {
	return slices.DeleteFunc(impl.PlacesOf(code, j.m, 300), func(place int) bool { return place < 8 })
}

// checkLeft fails if a program that is made of another one does not leave the memory so, in no more steps.
func checkLeft(t *testing.T, j journey, left []impl.Instr) {
	t.Helper()
	if !impl.ValidCode(left) || len(left) > len(j.code) {
		t.Fatalf("%v is left of %v", left, j.code)
	}
	end, steps, done := impl.RunMachine(j.code, j.m, 300)
	endLeft, stepsLeft, doneLeft := impl.RunMachine(left, j.m, 300)
	if done && (!doneLeft || stepsLeft > steps || !slices.Equal(end.Mem, endLeft.Mem)) {
		t.Fatalf("RunMachine(%v, %v) = %v, %d, and of %v = %v, %d, %v", j.code, j.m, end, steps, left, endLeft, stepsLeft, doneLeft)
	}
	stores, storesLeft := storesOf(j, j.code), storesOf(j, left)
	if len(storesLeft) < len(stores) || !slices.Equal(stores, storesLeft[:len(stores)]) {
		t.Fatalf("%v with %v writes to %v, and %v to %v", j.code, j.m, stores, left, storesLeft)
	}
}

// P30: a program without what is dropped leaves the memory so, in no more steps.
func TestDroppedProgramsDoTheSame(t *testing.T) {
	shorter := 0
	for _, j := range walks(t) {
		left := impl.DropDead(j.code)
		checkLeft(t, j, left)
		if len(left) < len(j.code) && len(storesOf(j, left)) > 0 {
			shorter++
		}
	}
	if shorter < 100 {
		t.Errorf("%d programs are shorter", shorter)
	}
}

// P31: a program that is shrunk has nothing to drop, and leaves the memory so.
func TestShrunkProgramsHaveNothingToDrop(t *testing.T) {
	again := 0
	for _, j := range walks(t) {
		left := impl.ShrinkCode(j.code)
		checkLeft(t, j, left)
		if !sameCode(impl.DropDead(left), left) || !sameCode(impl.ShrinkCode(left), left) {
			t.Fatalf("ShrinkCode(%v) = %v, and DropDead of it is %v", j.code, left, impl.DropDead(left))
		}
		if len(left) < len(impl.DropDead(j.code)) {
			again++
		}
	}
	if again < 100 {
		t.Errorf("%d programs are shrunk more than once", again)
	}
	chain := make([]impl.Instr, 40)
	for i := range chain {
		chain[i] = impl.Instr{Op: "add", D: i % 4, A: (i + 3) % 4, B: (i + 3) % 4}
	}
	if left := impl.DropDead(chain); len(left) != 39 {
		t.Errorf("DropDead leaves %d", len(left))
	}
	if left := impl.ShrinkCode(chain); len(left) != 0 {
		t.Errorf("ShrinkCode leaves %v", left)
	}
}

// P32: blocks are the program from one leader to the next, with jumps at their ends alone, and lead to blocks.
func TestBlocksAreTheProgram(t *testing.T) {
	for _, code := range flowCodes(t) {
		leaders, behind := impl.LeadersOf(code), 0
		blocks := impl.BlocksOf(code)
		if len(blocks) != len(leaders) {
			t.Fatalf("BlocksOf(%v) = %v", code, blocks)
		}
		for n, block := range blocks {
			if len(block) < 2 || len(block) > 4 || block[0] != leaders[n] || block[0] != behind || block[1] <= block[0] {
				t.Fatalf("BlocksOf(%v) = %v", code, blocks)
			}
			behind = block[1]
			for i := block[0]; i < behind-1; i++ {
				if slices.Contains([]string{"bz", "jmp", "hlt"}, code[i].Op) {
					t.Fatalf("BlocksOf(%v) = %v, with %d within one", code, blocks, i)
				}
			}
			for k, to := range block[2:] {
				if to != len(code) && !slices.Contains(leaders, to) || k > 0 && to <= block[k+1] {
					t.Fatalf("BlocksOf(%v) = %v", code, blocks)
				}
			}
		}
		if behind != len(code) {
			t.Fatalf("BlocksOf(%v) = %v", code, blocks)
		}
	}
}

// What is no program has no flow.
func TestNoFlow(t *testing.T) {
	for _, code := range append(wrongCodes(), []impl.Instr{{Op: "hlt"}, {Op: "nop"}}, []impl.Instr{{Op: "jmp", K: 2}}, []impl.Instr{{Op: "bz", K: 41}}) {
		f := flowOf(code)
		for i := range code {
			if len(f.next[i]) != 0 {
				t.Errorf("NextOf(%v, %d) = %v", code, i, f.next[i])
			}
		}
		if len(f.reach) != 0 || len(f.leaders) != 0 || len(f.doms) != 0 || len(f.loops) != 0 || len(f.live) != 0 || len(f.dropped) != 0 || len(f.shrunk) != 0 || len(f.blocks) != 0 {
			t.Errorf("flow of %v = %v", code, f)
		}
	}
}

// spoil writes over all memory of a list, and what is behind it.
func spoil[T any](list []T, by T) {
	for i := range list[:cap(list)] {
		list[:cap(list)][i] = by
	}
}

// checkApart writes over rows and what is behind them, from the first one on and from the last one on, and no row may change another one.
func checkApart(t *testing.T, rows [][]int) {
	t.Helper()
	var order []int
	for i := range rows {
		order = append(order, i)
	}
	for range 2 {
		for _, i := range order {
			spoil(rows[i], 1000+i)
		}
		for i, row := range rows {
			if slices.ContainsFunc(row, func(n int) bool { return n != 1000+i }) {
				t.Errorf("rows are one: %v", rows)
			}
		}
		slices.Reverse(order)
	}
}

// Programs that are given stay as they are, and what is returned is new each time, and each row of it.
func TestFlowOfItsOwn(t *testing.T) {
	for _, s := range []string{"set r0 1/bz r0 4/set r1 2/jmp 1/st r1 r0 0/hlt/set r2 3", "st r0 r0 0/bz r0 0/hlt", "jmp 2/bz r0 0/jmp 1", "jmp 0"} {
		code := append(codeOf(t, s), impl.Instr{Op: "hlt"})
		given := code[:len(code)-1]
		before := slices.Clone(code)
		f := flowOf(given)
		spoil(f.reach, true)
		spoil(f.leaders, 77)
		spoil(f.doms, 77)
		spoil(f.live, 77)
		spoil(f.dropped, impl.Instr{Op: "x"})
		spoil(f.shrunk, impl.Instr{Op: "x"})
		for _, rows := range [][][]int{f.next, f.loops, f.blocks} {
			checkApart(t, rows)
		}
		if !sameCode(code, before) {
			t.Errorf("the program that was given is now %v", code)
		}
		checkFlow(t, given)
	}
}
