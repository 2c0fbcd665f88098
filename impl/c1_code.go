package impl

import (
	"strconv"
	"strings"
)

// Regs is how many registers there are.
const Regs = 4

// Cells is how many cells of memory there are.
const Cells = 8

// Word is how many numbers a register or a cell may have.
const Word = 256

// MaxCode is the largest number of instructions of a program.
const MaxCode = 40

// The words of instructions stand in the order in which EncodeInstr counts them.
const (
	wordSet = iota
	wordAdd
	wordSub
	wordMul
	wordLt
	wordLd
	wordSt
	wordBz
	wordJmp
	wordHlt
	wordCount
)

var wordTexts = [wordCount]string{"set", "add", "sub", "mul", "lt", "ld", "st", "bz", "jmp", "hlt"}

// Instr is an instruction.
type Instr struct {
	Op string
	D  int
	A  int
	B  int
	K  int
}

// wordOf returns the index of a word of an instruction, -1 if it is none.
func wordOf(op string) int {
	for word, text := range wordTexts {
		if text == op {
			return word
		}
	}
	return -1
}

// partsOf returns the names of the parts that the text of a word tells, in order.
func partsOf(word int) string {
	switch word {
	case wordSet:
		return "DK"
	case wordAdd, wordSub, wordMul, wordLt:
		return "DAB"
	case wordLd, wordSt:
		return "DAK"
	case wordBz:
		return "AK"
	case wordJmp:
		return "K"
	}
	return ""
}

// greatestK returns the greatest K that a word may have.
func greatestK(word int) int {
	switch word {
	case wordSet:
		return Word - 1
	case wordLd, wordSt:
		return Cells - 1
	case wordBz, wordJmp:
		return MaxCode
	}
	return 0
}

// partOf returns the part of an instruction that has the name.
func partOf(c Instr, name byte) int {
	switch name {
	case 'D':
		return c.D
	case 'A':
		return c.A
	case 'B':
		return c.B
	}
	return c.K
}

// withPart returns an instruction with n as the part that has the name.
func withPart(c Instr, name byte, n int) Instr {
	switch name {
	case 'D':
		c.D = n
	case 'A':
		c.A = n
	case 'B':
		c.B = n
	default:
		c.K = n
	}
	return c
}

// toldParts returns an instruction with no parts but those that its text tells.
func toldParts(c Instr, word int) Instr {
	told := Instr{Op: c.Op}
	names := partsOf(word)
	for i := range len(names) {
		told = withPart(told, names[i], partOf(c, names[i]))
	}
	return told
}

// isRegister reports whether there is a register with the number.
func isRegister(n int) bool {
	return n >= 0 && n < Regs
}

// ValidInstr reports whether an instruction is valid.
func ValidInstr(c Instr) bool {
	word := wordOf(c.Op)
	if word < 0 || c != toldParts(c, word) {
		return false
	}
	if !isRegister(c.D) || !isRegister(c.A) || !isRegister(c.B) {
		return false
	}
	return c.K >= 0 && c.K <= greatestK(word)
}

// ShowInstr returns the text of an instruction.
func ShowInstr(c Instr) string {
	if !ValidInstr(c) {
		return ""
	}
	text := c.Op
	names := partsOf(wordOf(c.Op))
	for i := range len(names) {
		text += " "
		if names[i] != 'K' {
			text += "r"
		}
		text += strconv.Itoa(partOf(c, names[i]))
	}
	return text
}

// ReadInstr returns the instruction of a text.
func ReadInstr(s string) (Instr, bool) {
	fields := strings.Split(s, " ")
	word := wordOf(fields[0])
	if word < 0 {
		return Instr{}, false
	}
	names := partsOf(word)
	if len(fields) != len(names)+1 {
		return Instr{}, false
	}
	c := Instr{Op: wordTexts[word]}
	for i := range len(names) {
		n, err := strconv.Atoi(strings.TrimPrefix(fields[i+1], "r"))
		if err != nil {
			return Instr{}, false
		}
		c = withPart(c, names[i], n)
	}
	// Reading is lenient about signs, noughts ahead and the r of a register, so the text decides.
	if ShowInstr(c) != s {
		return Instr{}, false
	}
	return c, true
}

// EncodeInstr returns the number of an instruction.
func EncodeInstr(c Instr) int {
	if !ValidInstr(c) {
		return -1
	}
	n := wordOf(c.Op)
	n = n*Regs + c.D
	n = n*Regs + c.A
	n = n*Regs + c.B
	return n*Word + c.K
}

// DecodeInstr returns the instruction of a number.
func DecodeInstr(n int) (Instr, bool) {
	word := n / (Word * Regs * Regs * Regs)
	if n < 0 || word >= wordCount {
		return Instr{}, false
	}
	c := Instr{
		Op: wordTexts[word],
		D:  n / (Word * Regs * Regs) % Regs,
		A:  n / (Word * Regs) % Regs,
		B:  n / Word % Regs,
		K:  n % Word,
	}
	if !ValidInstr(c) {
		return Instr{}, false
	}
	return c, true
}

// isJump reports whether K of an instruction is the index of another one.
func isJump(c Instr) bool {
	word := wordOf(c.Op)
	return word == wordBz || word == wordJmp
}

// ValidCode reports whether instructions are a program.
func ValidCode(code []Instr) bool {
	if len(code) > MaxCode {
		return false
	}
	for _, c := range code {
		if !ValidInstr(c) || isJump(c) && c.K > len(code) {
			return false
		}
	}
	return true
}

// ReadCode returns the program of lines.
func ReadCode(s string) ([]Instr, bool) {
	var code []Instr
	for s != "" {
		line, rest, ended := strings.Cut(s, "\n")
		c, ok := ReadInstr(line)
		if !ended || !ok || len(code) == MaxCode {
			return nil, false
		}
		code = append(code, c)
		s = rest
	}
	if !ValidCode(code) {
		return nil, false
	}
	return code, true
}

// ShowCode returns the lines of a program.
func ShowCode(code []Instr) string {
	if !ValidCode(code) {
		return ""
	}
	text := ""
	for _, c := range code {
		text += ShowInstr(c) + "\n"
	}
	return text
}

// UsesOf returns the registers that an instruction reads and writes.
func UsesOf(c Instr) (int, int) {
	if !ValidInstr(c) {
		return -1, -1
	}
	switch wordOf(c.Op) {
	case wordSet:
		return 0, 1 << c.D
	case wordAdd, wordSub, wordMul, wordLt:
		return 1<<c.A | 1<<c.B, 1 << c.D
	case wordLd:
		return 1 << c.A, 1 << c.D
	case wordSt:
		return 1<<c.D | 1<<c.A, 0
	case wordBz:
		return 1 << c.A, 0
	}
	return 0, 0
}
