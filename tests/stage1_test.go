package tests

import (
	"fmt"
	"math"
	"strings"
	"testing"

	"loop.example/smallmachines/impl"
)

// entry is a valid instruction with what the document says of it, written out anew here.
type entry struct {
	c      impl.Instr
	text   string
	number int
	reads  int
	writes int
}

// allEntries returns all valid instructions, in the order of their numbers.
func allEntries() []entry {
	var list []entry
	add := func(word int, c impl.Instr, reads, writes int, format string, parts ...any) {
		number := word*16384 + c.D*4096 + c.A*1024 + c.B*256 + c.K
		list = append(list, entry{c, fmt.Sprintf(format, parts...), number, reads, writes})
	}
	bit := func(r int) int { return []int{1, 2, 4, 8}[r] }
	for d := 0; d <= 3; d++ {
		for k := 0; k <= 255; k++ {
			add(0, impl.Instr{Op: "set", D: d, K: k}, 0, bit(d), "set r%d %d", d, k)
		}
	}
	for i, op := range []string{"add", "sub", "mul", "lt"} {
		for n := 0; n < 64; n++ {
			d, a, b := n/16, n/4%4, n%4
			add(i+1, impl.Instr{Op: op, D: d, A: a, B: b}, bit(a)|bit(b), bit(d), "%s r%d r%d r%d", op, d, a, b)
		}
	}
	for i, op := range []string{"ld", "st"} {
		for n := 0; n < 128; n++ {
			d, a, k := n/32, n/8%4, n%8
			reads, writes := bit(a), bit(d)
			if op == "st" {
				reads, writes = bit(a)|bit(d), 0
			}
			add(i+5, impl.Instr{Op: op, D: d, A: a, K: k}, reads, writes, "%s r%d r%d %d", op, d, a, k)
		}
	}
	for a := 0; a <= 3; a++ {
		for k := 0; k <= 40; k++ {
			add(7, impl.Instr{Op: "bz", A: a, K: k}, bit(a), 0, "bz r%d %d", a, k)
		}
	}
	for k := 0; k <= 40; k++ {
		add(8, impl.Instr{Op: "jmp", K: k}, 0, 0, "jmp %d", k)
	}
	add(9, impl.Instr{Op: "hlt"}, 0, 0, "hlt")
	return list
}

// nearInstrs returns instructions of all words, and of some that are none, with parts in and out of their ranges.
func nearInstrs() []impl.Instr {
	var list []impl.Instr
	registers := []int{0, 1, 3, 4, -1, math.MaxInt, math.MinInt}
	numbers := []int{0, 1, 7, 8, 39, 40, 41, 255, 256, -1, math.MaxInt, math.MinInt}
	for _, op := range []string{"set", "add", "sub", "mul", "lt", "ld", "st", "bz", "jmp", "hlt", "", "nop", "SET", "set ", " hlt", "hlt\n", "le", "s"} {
		for _, d := range registers {
			for _, a := range registers {
				for _, b := range registers {
					for _, k := range numbers {
						list = append(list, impl.Instr{Op: op, D: d, A: a, B: b, K: k})
					}
				}
			}
		}
	}
	return list
}

// nearTexts returns texts that are an instruction's but for one byte, and some that are further off.
func nearTexts(text string) []string {
	list := []string{text, text + "\n", "\n" + text, text + text, strings.ToUpper(text), strings.ReplaceAll(text, " ", "  "), strings.ReplaceAll(text, " ", "\t"), strings.ReplaceAll(text, "r", "")}
	for i := 0; i <= len(text); i++ {
		for _, sign := range []byte("0123456789r +-_x.\n\x00\xff") {
			list = append(list, text[:i]+string([]byte{sign})+text[i:])
			if i < len(text) {
				list = append(list, text[:i]+string([]byte{sign})+text[i+1:])
			}
		}
		if i < len(text) {
			list = append(list, text[:i]+text[i+1:])
		}
	}
	return list
}

// wrongTexts are near misses that are named one by one.
var wrongTexts = []string{
	"", " ", "\n", "set", "set r1", "set r1 5 ", " set r1 5", "set r1 5 0", "set r4 5", "set r-1 5", "set r1 256", "set r1 -1", "set r1 -0", "set r1 +5", "set r1 05", "set r01 5", "set r+1 5",
	"set R1 5", "set 1 5", "set r 5", "set rr1 5", "set r1 r5", "set r1 0x5", "set r1 1_0", "set r1 99999999999999999999", "set r1 18446744073709551621", "set,r1,5",
	"add r1 r2", "add r1 r2 3", "add r1 r2 r4", "add r1 r2 r3 r0", "add r1 r2 r3 0", "lt r0 r0", "mul r0 r0 r0\n",
	"ld r1 r2", "ld r1 r2 8", "ld r1 2 3", "ld r1 r2 r3", "st r1 r2 8", "st r1 r2 3 ", "st r1 3",
	"bz r1 41", "bz r1", "bz 1 4", "bz r4 4", "bz r0 r1 4", "jmp", "jmp 41", "jmp r1", "jmp 01", "jmp r1 4", "jmp -1", "hlt 0", "hlt ", " hlt", "halt", "hl", "nop", "r1", "0",
}

// lcg gives numbers that are the same in each run.
type lcg uint64

func (g *lcg) below(n int) int {
	*g = *g*6364136223846793005 + 1442695040888963407
	return int(uint64(*g) >> 33 % uint64(n))
}

// someCode returns a program of as many instructions, its jumps as far as the end.
func someCode(g *lcg, size int, list []entry) []impl.Instr {
	var code []impl.Instr
	for len(code) < size {
		c := list[g.below(len(list))].c
		if c.Op == "bz" || c.Op == "jmp" {
			c.K = g.below(size + 1)
		}
		code = append(code, c)
	}
	return code
}

// manyCodes returns programs of all sizes, each one valid.
func manyCodes() [][]impl.Instr {
	list := allEntries()
	g := lcg(7)
	codes := [][]impl.Instr{nil, {}}
	for size := 1; size <= 40; size++ {
		for range 8 {
			codes = append(codes, someCode(&g, size, list))
		}
		toEnd := make([]impl.Instr, size)
		for i := range toEnd {
			toEnd[i] = impl.Instr{Op: "jmp", K: size}
		}
		codes = append(codes, toEnd)
	}
	return codes
}

// textOf returns the lines of a program, put together from the texts that are written out here.
func textOf(code []impl.Instr, texts map[impl.Instr]string) string {
	s := ""
	for _, c := range code {
		s += texts[c] + "\n"
	}
	return s
}

func textsByInstr() map[impl.Instr]string {
	texts := map[impl.Instr]string{}
	for _, e := range allEntries() {
		texts[e.c] = e.text
	}
	return texts
}

func sameCode(a, b []impl.Instr) bool {
	if len(a) != len(b) {
		return false
	}
	for i := range a {
		if a[i] != b[i] {
			return false
		}
	}
	return true
}

func TestLimits(t *testing.T) {
	if impl.Regs != 4 || impl.Cells != 8 || impl.Word != 256 || impl.MaxCode != 40 {
		t.Errorf("limits = %d, %d, %d, %d", impl.Regs, impl.Cells, impl.Word, impl.MaxCode)
	}
}

// P1: numbers are there exactly for valid instructions.
func TestNumbersOfValidInstructions(t *testing.T) {
	for _, e := range allEntries() {
		if !impl.ValidInstr(e.c) {
			t.Errorf("ValidInstr(%v) = false", e.c)
		}
		if n := impl.EncodeInstr(e.c); n != e.number {
			t.Errorf("EncodeInstr(%v) = %d, not %d", e.c, n, e.number)
		}
	}
}

// P1: what is not valid has no number, no text and no registers.
func TestNothingOfInvalidInstructions(t *testing.T) {
	texts := textsByInstr()
	for _, c := range nearInstrs() {
		want, valid := texts[c]
		if impl.ValidInstr(c) != valid {
			t.Fatalf("ValidInstr(%v) = %v", c, !valid)
		}
		if n := impl.EncodeInstr(c); n >= 0 != valid || n < -1 {
			t.Fatalf("EncodeInstr(%v) = %d", c, n)
		}
		if s := impl.ShowInstr(c); s != want {
			t.Fatalf("ShowInstr(%v) = %q, not %q", c, s, want)
		}
		reads, writes := impl.UsesOf(c)
		if !valid && (reads != -1 || writes != -1) || valid && (reads < 0 || writes < 0) {
			t.Fatalf("UsesOf(%v) = %d, %d", c, reads, writes)
		}
	}
}

// P2: the text of each instruction is read back.
func TestTextsAreReadBack(t *testing.T) {
	for _, e := range allEntries() {
		if s := impl.ShowInstr(e.c); s != e.text {
			t.Errorf("ShowInstr(%v) = %q, not %q", e.c, s, e.text)
		}
		if c, ok := impl.ReadInstr(impl.ShowInstr(e.c)); !ok || c != e.c {
			t.Errorf("ReadInstr(%q) = %v, %v", e.text, c, ok)
		}
	}
}

// P3: a text is read only if it is that of the instruction, to the byte.
func TestTextsThatAreNearlyRight(t *testing.T) {
	instrs := map[string]impl.Instr{}
	for _, e := range allEntries() {
		instrs[e.text] = e.c
	}
	near := append([]string{}, wrongTexts...)
	for _, text := range []string{"set r1 5", "set r3 255", "set r0 0", "add r1 r2 r3", "sub r0 r0 r0", "mul r3 r1 r1", "lt r0 r1 r2", "ld r1 r2 3", "st r3 r0 7", "bz r1 40", "bz r0 0", "jmp 0", "jmp 39", "hlt"} {
		near = append(near, nearTexts(text)...)
	}
	for _, s := range near {
		want, valid := instrs[s]
		c, ok := impl.ReadInstr(s)
		if ok != valid || c != want {
			t.Fatalf("ReadInstr(%q) = %v, %v", s, c, ok)
		}
		if ok && (impl.ShowInstr(c) != s || !impl.ValidInstr(c)) {
			t.Fatalf("ShowInstr(%v) = %q, not %q", c, impl.ShowInstr(c), s)
		}
	}
	for _, s := range wrongTexts {
		if c, ok := impl.ReadInstr(s); ok {
			t.Errorf("ReadInstr(%q) = %v", s, c)
		}
	}
}

// P4: the number of each instruction is decoded.
func TestNumbersAreDecoded(t *testing.T) {
	for _, e := range allEntries() {
		if c, ok := impl.DecodeInstr(impl.EncodeInstr(e.c)); !ok || c != e.c {
			t.Errorf("DecodeInstr(%d) = %v, %v, not %v", e.number, c, ok, e.c)
		}
	}
}

// P5: numbers are decoded only if they are those of instructions.
func TestNumbersOfNoInstruction(t *testing.T) {
	instrs := map[int]impl.Instr{}
	for _, e := range allEntries() {
		instrs[e.number] = e.c
	}
	check := func(n int) {
		want, valid := instrs[n]
		c, ok := impl.DecodeInstr(n)
		if ok != valid || c != want {
			t.Fatalf("DecodeInstr(%d) = %v, %v", n, c, ok)
		}
		if ok && impl.EncodeInstr(c) != n {
			t.Fatalf("EncodeInstr(%v) = %d, not %d", c, impl.EncodeInstr(c), n)
		}
	}
	for n := -20000; n <= 200000; n++ {
		check(n)
	}
	for _, n := range []int{math.MaxInt, math.MinInt, math.MaxInt32, math.MinInt32, 1 << 32, 1<<32 + 4101, 1 << 62, -4101, -147456} {
		check(n)
	}
}

// P6: a program that is not full is one with hlt behind it too.
func TestProgramsMayHalt(t *testing.T) {
	for _, code := range manyCodes() {
		if !impl.ValidCode(code) {
			t.Fatalf("ValidCode(%v) = false", code)
		}
		for _, c := range code {
			if !impl.ValidInstr(c) {
				t.Fatalf("ValidInstr(%v) = false in a program", c)
			}
		}
		halted := append(append([]impl.Instr{}, code...), impl.Instr{Op: "hlt"})
		if impl.ValidCode(halted) != (len(code) < 40) {
			t.Fatalf("ValidCode of %d instructions and hlt = %v", len(code), impl.ValidCode(halted))
		}
	}
}

// P6: jumps lead to the end, but not behind it.
func TestJumpsToTheEnd(t *testing.T) {
	for size := 1; size <= 40; size++ {
		for _, jump := range []impl.Instr{{Op: "bz", A: 3}, {Op: "jmp"}} {
			for at := range size {
				code := make([]impl.Instr, size)
				for i := range code {
					code[i] = impl.Instr{Op: "hlt"}
				}
				for _, k := range []int{-1, 0, size - 1, size, size + 1, 40, 41} {
					jump.K = k
					code[at] = jump
					want := k >= 0 && k <= size
					if impl.ValidCode(code) != want || (impl.ShowCode(code) != "") != want {
						t.Fatalf("ValidCode with %v among %d = %v", jump, size, !want)
					}
				}
			}
		}
	}
}

// P6 and P7: what is no program has no lines.
func TestNoPrograms(t *testing.T) {
	for _, c := range []impl.Instr{{}, {Op: "nop"}, {Op: "hlt", K: 1}, {Op: "set", D: 4}, {Op: "set", K: 256}, {Op: "add", K: 1}, {Op: "ld", K: 8}, {Op: "bz", D: 1}, {Op: "jmp", K: 3}} {
		code := []impl.Instr{{Op: "set"}, c}
		if impl.ValidCode(code) || impl.ShowCode(code) != "" {
			t.Errorf("ValidCode(%v), with ShowCode %q", code, impl.ShowCode(code))
		}
	}
	long := make([]impl.Instr, 41)
	for i := range long {
		long[i] = impl.Instr{Op: "hlt"}
	}
	if impl.ValidCode(long) || impl.ShowCode(long) != "" || !impl.ValidCode(long[:40]) {
		t.Error("ValidCode of 40 and of 41 instructions")
	}
}

// P7: lines are read only if they are those of the program, to the byte.
func TestLinesThatAreNearlyRight(t *testing.T) {
	right := []string{"", "hlt\n", "jmp 1\n", "bz r3 1\n", "set r1 5\njmp 2\n", "jmp 0\nbz r0 2\n", strings.Repeat("hlt\n", 40), strings.Repeat("jmp 40\n", 40), strings.Repeat("hlt\n", 39) + "bz r0 40\n"}
	for _, s := range right {
		code, ok := impl.ReadCode(s)
		if !ok || len(code) != strings.Count(s, "\n") || !impl.ValidCode(code) || impl.ShowCode(code) != s {
			t.Errorf("ReadCode(%q) = %v, %v", s, code, ok)
		}
	}
	wrong := []string{"\n", "hlt", "hlt\n\n", "\nhlt\n", "hlt\nhlt", "hlt\r\n", "hlt \n", " hlt\n", "hlt\n ", "hlt;hlt\n", "hlt / hlt\n", "x\n", "hlt\nx\nhlt\n", "jmp 2\n", "bz r0 2\n", "jmp 3\nhlt\n", "jmp -1\n", "jmp 01\n", "set r1 256\n", "hlt\n\x00",
		strings.Repeat("hlt\n", 41), strings.Repeat("hlt\n", 5000), strings.Repeat("hlt\n", 40) + "\n", strings.Repeat("hlt\n", 40) + "x", strings.Repeat("jmp 40\n", 39), strings.Repeat("jmp 41\n", 41)}
	for _, s := range wrong {
		if code, ok := impl.ReadCode(s); ok || len(code) != 0 {
			t.Errorf("ReadCode(%q) = %v, %v", s, code, ok)
		}
	}
}

// P8: each program is read back from its lines.
func TestProgramsAreReadBack(t *testing.T) {
	texts := textsByInstr()
	for _, code := range manyCodes() {
		want := textOf(code, texts)
		s := impl.ShowCode(code)
		if s != want {
			t.Fatalf("ShowCode(%v) = %q, not %q", code, s, want)
		}
		back, ok := impl.ReadCode(s)
		if !ok || !sameCode(back, code) {
			t.Fatalf("ReadCode(%q) = %v, %v", s, back, ok)
		}
		if impl.ShowCode(back) != s {
			t.Fatalf("ShowCode of ReadCode(%q) = %q", s, impl.ShowCode(back))
		}
		if s != "" {
			if cut, ok := impl.ReadCode(s[:len(s)-1]); ok || len(cut) != 0 {
				t.Fatalf("ReadCode without the last newline = %v, %v", cut, ok)
			}
		}
	}
}

// UsesOf tells the registers that are read, and those that are written.
func TestUses(t *testing.T) {
	for _, e := range allEntries() {
		if reads, writes := impl.UsesOf(e.c); reads != e.reads || writes != e.writes {
			t.Errorf("UsesOf(%q) = %d, %d, not %d, %d", e.text, reads, writes, e.reads, e.writes)
		}
	}
}

// Results are new each time, and arguments stay as they are.
func TestResultsOfTheirOwn(t *testing.T) {
	first, _ := impl.ReadCode("set r1 5\nhlt\n")
	second, _ := impl.ReadCode("set r1 5\nhlt\n")
	first[0].K = 6
	if second[0].K != 5 {
		t.Error("ReadCode gives the same memory twice")
	}
	before := append([]impl.Instr{}, second...)
	impl.ValidCode(second)
	impl.ShowCode(second)
	if !sameCode(before, second) {
		t.Error("ShowCode changes its argument")
	}
}
