package tests

import (
	"fmt"
	"math"
	"regexp"
	"slices"
	"strconv"
	"strings"
	"testing"

	"loop.example/g00760/impl"
)

// operandForms are the operands of the modes, as the document's chapter 13 tells them.
func operandForms() map[string]string {
	return map[string]string{
		"imp": "", "acc": " A", "imm": " #$LO", "zpg": " $LO", "rel": " $LO", "zpx": " $LO,X", "zpy": " $LO,Y",
		"abs": " $HILO", "abx": " $HILO,X", "aby": " $HILO,Y", "inx": " ($LO,X)", "iny": " ($LO),Y", "ind": " ($HILO)",
	}
}

func hex2(v int) string { return fmt.Sprintf("%02X", v) }

// writtenOf is an instruction as a text, by these forms alone.
func writtenOf(op listed, lo, hi int) string {
	return op.name + strings.NewReplacer("LO", hex2(lo), "HI", hex2(hi)).Replace(operandForms()[op.mode])
}

// standsFor are the bytes of an instruction.
func standsFor(op listed, lo, hi int) string {
	return string([]byte{byte(op.code), byte(lo), byte(hi)}[:sizesOfModes()[op.mode]])
}

func checkText(t *testing.T, code, lo, hi int, want string) {
	t.Helper()
	if got := impl.OpText(code, lo, hi); got != want {
		t.Errorf("OpText(%d, %d, %d) = %q, want %q", code, lo, hi, got, want)
	}
}

func checkAsm(t *testing.T, line string, want string, wantOk bool) {
	t.Helper()
	if got, ok := impl.Asm(line); got != want || ok != wantOk {
		t.Errorf("Asm(%.60q) = %q, %t, want %q, %t", line, got, ok, want, wantOk)
	}
}

func checkProgram(t *testing.T, text string, want string, wantPlace int) {
	t.Helper()
	if got, place := impl.Program(text); got != want || place != wantPlace {
		t.Errorf("Program(%.60q) = %.40q, %d, want %.40q, %d", text, got, place, want, wantPlace)
	}
}

func checkList(t *testing.T, m impl.Mem, addr, n int, want []string) {
	t.Helper()
	if got := impl.List(m, addr, n); !slices.Equal(got, want) {
		t.Errorf("List from %d, %d of them: %q, want %q", addr, n, got, want)
	}
}

func TestOpTextOfEachMode(t *testing.T) {
	rows := []struct {
		code, lo, hi int
		want         string
	}{
		{0x00, 1, 2, "BRK"}, {0xEA, 0, 0, "NOP"}, {0x60, 255, 255, "RTS"}, {0x48, 16, 32, "PHA"},
		{0x0A, 0, 0, "ASL A"}, {0x2A, 1, 2, "ROL A"}, {0x4A, 255, 255, "LSR A"}, {0x6A, 10, 10, "ROR A"},
		{0xA9, 0, 255, "LDA #$00"}, {0xA9, 10, 0, "LDA #$0A"}, {0xE0, 255, 1, "CPX #$FF"}, {0xA0, 160, 0, "LDY #$A0"},
		{0xA5, 16, 32, "LDA $10"}, {0x85, 0, 1, "STA $00"}, {0x24, 255, 0, "BIT $FF"}, {0xC6, 15, 0, "DEC $0F"},
		{0xB5, 16, 32, "LDA $10,X"}, {0x94, 171, 0, "STY $AB,X"}, {0xF6, 9, 9, "INC $09,X"},
		{0xB6, 16, 32, "LDX $10,Y"}, {0x96, 205, 0, "STX $CD,Y"},
		{0xAD, 52, 18, "LDA $1234"}, {0x4C, 0, 2, "JMP $0200"}, {0x20, 254, 255, "JSR $FFFE"}, {0x8E, 1, 0, "STX $0001"}, {0xEC, 0, 0, "CPX $0000"},
		{0xBD, 52, 18, "LDA $1234,X"}, {0x9D, 11, 160, "STA $A00B,X"}, {0x1E, 0, 0, "ASL $0000,X"},
		{0xB9, 52, 18, "LDA $1234,Y"}, {0xBE, 239, 190, "LDX $BEEF,Y"},
		{0xA1, 16, 32, "LDA ($10,X)"}, {0x81, 254, 0, "STA ($FE,X)"},
		{0xB1, 16, 32, "LDA ($10),Y"}, {0x91, 7, 0, "STA ($07),Y"},
		{0x6C, 52, 18, "JMP ($1234)"}, {0x6C, 255, 0, "JMP ($00FF)"},
		{0xD0, 254, 1, "BNE $FE"}, {0x10, 0, 0, "BPL $00"}, {0xB0, 127, 0, "BCS $7F"}, {0x70, 128, 0, "BVS $80"},
		{0x02, 0, 0, "JAM"}, {0x03, 1, 2, "JAM"}, {0xFF, 255, 255, "JAM"}, {0x80, 16, 16, "JAM"}, {0x1A, 5, 5, "JAM"},
	}
	for _, row := range rows {
		checkText(t, row.code, row.lo, row.hi, row.want)
	}
}

// TestOpTextOfAllBytes: each byte, with all low ones, with all high ones, and with some of both.
func TestOpTextOfAllBytes(t *testing.T) {
	list := listByCode(t)
	for code := range 256 {
		op, isListed := list[code]
		if !isListed {
			op = listed{code, "JAM", "imp"}
		}
		for v := range 256 {
			for _, pair := range [][2]int{{v, 0}, {0, v}, {v, 255 - v}, {v, 163}, {92, v}} {
				checkText(t, code, pair[0], pair[1], writtenOf(op, pair[0], pair[1]))
			}
		}
	}
}

func TestOpTextTakesLowestBits(t *testing.T) {
	for _, far := range []int{256, -256, 65536, -65536, 256 * 1000003, -256 * 1000003, 1 << 40, math.MinInt} {
		checkText(t, 0xA9+far, 10, 0, "LDA #$0A")
		checkText(t, 0x02+far, 10, 0, "JAM")
		checkText(t, 0xA9, 10+far, 0, "LDA #$0A")
		checkText(t, 0xA9, 10, 5+far, "LDA #$0A")
		checkText(t, 0xB9, 0x34+far, 0x12, "LDA $1234,Y")
		checkText(t, 0xB9, 0x34, 0x12+far, "LDA $1234,Y")
		checkText(t, 0x6C+far, 0xFF+far, 0xF0+far, "JMP ($F0FF)")
	}
	rows := []struct {
		n    int
		want string
	}{{-1, "FF"}, {-2, "FE"}, {-255, "01"}, {-256, "00"}, {256, "00"}, {266, "0A"}, {511, "FF"}, {math.MaxInt, "FF"}, {math.MinInt, "00"}, {math.MinInt + 1, "01"}}
	for _, row := range rows {
		checkText(t, 0xA9, row.n, 7, "LDA #$"+row.want)
		checkText(t, 0xF0, row.n, 7, "BEQ $"+row.want)
		checkText(t, 0x20, row.n, 7, "JSR $07"+row.want)
		checkText(t, 0x20, 7, row.n, "JSR $"+row.want+"07")
	}
	checkText(t, -1, 0, 0, "JAM")
	checkText(t, -22, 1, 1, "NOP")
	checkText(t, math.MinInt, 1, 1, "BRK")
	checkText(t, math.MaxInt, 1, 1, "JAM")
}

// TestInstructionsComeBack: each instruction, with all low bytes and all high ones, from its text.
func TestInstructionsComeBack(t *testing.T) {
	for _, op := range allListed(t) {
		for v := range 256 {
			for _, pair := range [][2]int{{v, 0}, {v, 255 - v}, {0, v}, {(v * 7) % 256, v}} {
				text := impl.OpText(op.code, pair[0], pair[1])
				checkAsm(t, text, standsFor(op, pair[0], pair[1]), true)
			}
		}
	}
}

// TestOperandsOfTwoBytesComeBack: an instruction of each mode of three bytes, with all of them.
func TestOperandsOfTwoBytesComeBack(t *testing.T) {
	for _, op := range []listed{{0x4C, "JMP", "abs"}, {0x6C, "JMP", "ind"}, {0x3E, "ROL", "abx"}, {0xBE, "LDX", "aby"}} {
		for word := range 65536 {
			checkAsm(t, writtenOf(op, word%256, word/256), standsFor(op, word%256, word/256), true)
		}
	}
}

// smallLetters are a text's own in the ways of 0 .. 3: as it is, all small, and each second one.
func smallLetters(text string, way int) string {
	signs := []byte(text)
	for i, sign := range signs {
		isSmall := way == 1 || way == 2 && i%2 == 0 || way == 3 && i%2 == 1
		if isSmall && sign >= 65 && sign <= 90 {
			signs[i] = sign + 32
		}
	}
	return string(signs)
}

func TestAsmOfLettersAndBlanks(t *testing.T) {
	ends := []string{"", " ", "\t", "   ", "\t\t", " \t ", strings.Repeat(" \t", 3000)}
	gaps := []string{" ", "\t", "  ", " \t", "\t ", "\t\t\t", strings.Repeat(" ", 4000)}
	for _, op := range allListed(t) {
		lo, hi := 0xAB, 0x0F
		want := standsFor(op, lo, hi)
		for i := range 7 * 4 {
			text := smallLetters(writtenOf(op, lo, hi), i%4)
			text = ends[i%7] + strings.Replace(text, " ", gaps[(i+i/7)%7], 1) + ends[(i+i/4)%7]
			checkAsm(t, text, want, true)
		}
	}
	rows := []struct{ line, want string }{
		{"lda #$0a", "\xa9\x0a"}, {"Lda #$aB", "\xa9\xab"}, {"lDA #$Ab", "\xa9\xab"}, {"  LDA\t#$0A ", "\xa9\x0a"}, {"asl a", "\x0a"}, {"\tasl\t\tA\t", "\x0a"},
		{" nop ", "\xea"}, {"nOp", "\xea"}, {"lda ($fe),y", "\xb1\xfe"}, {"LDA ($FE,x)", "\xa1\xfe"}, {"jmp ($abcd)", "\x6c\xcd\xab"}, {"sty $10,x", "\x94\x10"},
		{"bne $fe", "\xd0\xfe"}, {"ldx $cafe,y", "\xbe\xfe\xca"},
	}
	for _, row := range rows {
		checkAsm(t, row.line, row.want, true)
	}
}

// TestAsmKnowsModesByNames: two digits are of zpg or of rel, by the name alone.
func TestAsmKnowsModesByNames(t *testing.T) {
	for _, op := range allListed(t) {
		if op.mode != "zpg" && op.mode != "rel" {
			continue
		}
		checkAsm(t, op.name+" $10", string([]byte{byte(op.code), 16}), true)
		checkAsm(t, op.name+" $FE", string([]byte{byte(op.code), 254}), true)
	}
	rows := []struct{ line, want string }{
		{"BIT $10", "\x24\x10"}, {"BPL $10", "\x10\x10"}, {"BCC $10", "\x90\x10"}, {"BEQ $00", "\xf0\x00"}, {"STA $00", "\x85\x00"}, {"LDA $0010", "\xad\x10\x00"}, {"LDA $10", "\xa5\x10"},
		{"STX $10,Y", "\x96\x10"}, {"STX $0010", "\x8e\x10\x00"}, {"LSR A", "\x4a"}, {"LSR $0A", "\x46\x0a"}, {"LSR $0A,X", "\x56\x0a"}, {"LSR $000A,X", "\x5e\x0a\x00"},
	}
	for _, row := range rows {
		checkAsm(t, row.line, row.want, true)
	}
}

func TestAsmRefuses(t *testing.T) {
	lines := []string{
		"", " ", "\t", " \t  \t", strings.Repeat(" ", 5000), "JAM", "jam", "JAM A", "JAM $10", "JAM #$02", " JAM ",
		"LDA", "lda", " LDA ", "ASL", "ROR", "LSR\t", "JMP", "JSR", "BNE", "STA", "STX", "BIT", "CPX", "INC", "ADC",
		"NOP A", "NOP #$01", "NOP $10", "NOP $1234", "BRK #$00", "BRK $00", "RTS ($10)", "INX A", "DEX $10", "TAX X", "LDA A", "INC A", "DEC A", "JMP A", "BNE A",
		"STA #$01", "STX #$01", "ASL #$01", "BNE #$01", "JSR #$01", "BIT #$01", "LDX $10,X", "STX $10,X", "LDY $10,Y", "STY $10,Y", "LDA $10,Y", "ASL $10,Y", "INC $10,Y",
		"STY $1234,X", "STX $1234,Y", "LDX $1234,X", "LDY $1234,Y", "ASL $1234,Y", "BIT $10,X", "BIT $1234,X", "CPX $10,X", "JMP $1234,X", "JSR $1234,Y",
		"LDX ($10,X)", "LDX ($10),Y", "ASL ($10,X)", "JMP ($10,X)", "JMP ($10),Y", "JSR ($1234)", "LDA ($1234)", "STA ($10)", "BNE ($10)", "LDA ($10)",
		"BNE $1234", "BNE $FFFE", "BEQ $0010", "JMP $12", "JSR $12", "JMP ($12)", "BNE $10,X",
		"LDA #$A", "LDA #$", "LDA #$0AB", "LDA #$000A", "LDA #$12345678", "LDA $", "LDA $1", "LDA $123", "LDA $12345", "LDA $012345", "LDA $00001234", "LDA $123,X", "LDA $1,X", "LDA $12345,X", "LDA $,X",
		"LDA ($1,X)", "LDA ($123,X)", "LDA ($1234,X)", "LDA ($1),Y", "LDA ($1234),Y", "JMP ($123)", "JMP ($12345)", "JMP $123", "JMP $12345", "BNE $1", "BNE $123", "LDA (,X)", "LDA (),Y", "JMP ()",
		"LDA #10", "LDA #0A", "LDA 10", "LDA 1234", "LDA 10,X", "LDA (10,X)", "JMP 1234", "JMP (1234)", "BNE 10", "LDA #", "LDA #A", "LDA 10H", "LDA 0x10", "LDA #0x10", "LDA #%01", "LDA #-1", "LDA #+1",
		"LDA #$0G", "LDA #$G0", "LDA $-1", "LDA $+1", "LDA #$-1", "LDA #$+A", "LDA $0x", "LDA $1_0", "LDA $_10", "LDA $1.", "LDA $XX", "LDA $,,", "LDA #$XY", "LDA #$($", "LDA #$0O", "LDA $$10", "LDA #$$10", "LDA ##$10", "LDA $#10", "LDA #$10$", "LDA #$10#", "LDA $10#",
		"LDA ( $10,X)", "LDA ($ 10,X)", "LDA ($1 0,X)", "LDA ($10 ,X)", "LDA ($10, X)", "LDA ($10,X )", "LDA ($10) ,Y", "LDA ($10), Y", "LDA ($10 ),Y", "LDA $10 ,X", "LDA $10, X", "LDA $ 10", "LDA # $10", "LDA #$ 10", "LDA #$1 0", "JMP ( $1234)", "JMP ($1234 )", "JMP $12 34",
		"LDA ($10,Y)", "LDA ($10),X", "LDA ($10,X", "LDA $10,X)", "LDA ($10", "LDA $10)", "LDA (($10,X)", "LDA ($10,X))", "LDA ($10)Y", "LDA ($10)", "LDA ($10)),Y", "LDA ($10,X),Y", "LDA (#$10,X)", "JMP ($1234", "JMP $1234)", "JMP (($1234))", "LDA [$10],Y",
		"LDA $10X", "LDA $10,", "LDA $10,Z", "LDA $10,A", "LDA $10,XX", "LDA $10,,X", "LDA $10,X,", "LDA $10,X,Y", "LDA $1234,Z", "LDA ,X", "LDA X", "LDA Y,$10", "LDA #$10,X", "LDA X,$10", "ASL A,X", "ASL AA", "ASL B", "ASL $A", "ASL #A",
		"LDA $10 X", "LDA $10 $20", "LDA #$10 #$10", "LDA #$0A ; x", "LDA #$0A;x", "LDA #$0A ;", "LDA #$0A;", "; LDA #$0A", ";LDA #$0A", ";", "; ", "NOP ;", "NOP;", "NOP NOP", "NOP x", "ASL A A", "ASL A ;", "NOP .", "LDA #$0A // x", "NOP # x",
		"XYZ", "LD", "L", "LDAA", "LDAX $10", "LDA# $10", "LDA#$10", "LDA$10", "LDA($10),Y", "ASLA", "AS L", "A SL A", "L DA #$10", "NO P", "N OP", "LDA: #$10", "X: LDA #$10", "LDA.B $10", "LAX $10", "SLO $10", "*", "$A9", "A9 0A", "#$0A", "#$0A LDA", "$10", "A", "0", "1 NOP", "NOP 1", "ORG $0200", ".BYTE $10", "DB 1",
		"LDA #$0A\n", "\nLDA #$0A", "LDA\n#$0A", "NOP\n", "\nNOP", "NOP\r", "\rNOP", "NOP\r\n", "LDA #$0A\r", "LDA\r#$0A", "LDA \r#$0A", "\n", "\r", "NOP\v", "NOP\f", "\fNOP", "NOP\x00", "\x00NOP", "LDA\x00#$0A", "NOP\nNOP",
		"NOP\u00a0", "LDA\u00a0#$0A", "\u2003NOP", "NOP\u2028", "\ufeffNOP", "NOP\x85", "NOP\xa0", "LDA\xa0#$0A", "NOP\xff", "\xffNOP", "N\xffOP", "\xce\xcf\xd0",
		// Letters of which the library's great or small ones are among A .. Z, and digits that aren't 0 .. 9.
		"\u017fta $10", "\u017fTA $10", "A\u017fL A", "a\u017fl a", "\u0131nx", "\u0131NX", "\u0130NX", "cl\u0131", "BR\u212a", "br\u212a", "\uff2e\uff2f\uff30", "\uff4e\uff4f\uff50", "LDA #$\uff10\uff21", "LDA #$\u0661\u0660", "LDA $10,\uff38", "LDA $10,\u03a7", "\u0391SL A", "ASL \u0391", "LDA \uff03$0A",
	}
	for _, line := range lines {
		checkAsm(t, line, "", false)
		checkAsm(t, "  "+line, "", false)
		checkAsm(t, line+"\t", "", false)
	}
}

// TestAsmOfAllNamesAndModes: each name with the operand of each mode, whether it has that or not.
func TestAsmOfAllNamesAndModes(t *testing.T) {
	all := allListed(t)
	for _, name := range append(allNames(t), "JAM", "XYZ", "LAX", "LD", "LDAA", "IMP", "ADD") {
		for mode := range sizesOfModes() {
			line := writtenOf(listed{0, name, mode}, 0x2C, 0xD1)
			at := slices.IndexFunc(all, func(op listed) bool {
				return op.name == name && operandForms()[op.mode] == operandForms()[mode]
			})
			want := ""
			if at >= 0 {
				want = standsFor(all[at], 0x2C, 0xD1)
			}
			checkAsm(t, line, want, at >= 0)
			checkAsm(t, smallLetters(line, 1), want, at >= 0)
			// One blank more ahead of a sign that follows another one makes it none.
			for i := range len(line) {
				if i > 0 && line[i] != 32 && line[i-1] != 32 {
					checkAsm(t, line[:i]+" "+line[i:], "", false)
				}
			}
		}
	}
}

// lineReader reads a line by a pattern of each mode.
type lineReader struct {
	modes    []string
	patterns []*regexp.Regexp
	codes    map[string]int
}

func newLineReader(t *testing.T) lineReader {
	t.Helper()
	r := lineReader{codes: map[string]int{}}
	for mode, form := range operandForms() {
		pattern := regexp.QuoteMeta(strings.TrimSpace(form))
		for _, sign := range []string{"A", "X", "Y"} {
			pattern = strings.ReplaceAll(pattern, sign, "["+sign+strings.ToLower(sign)+"]")
		}
		pattern = strings.ReplaceAll(pattern, "LO", "(?P<lo>[0-9A-Fa-f]{2})")
		pattern = strings.ReplaceAll(pattern, "HI", "(?P<hi>[0-9A-Fa-f]{2})")
		if pattern != "" {
			pattern = `[ \t]+` + pattern
		}
		r.modes = append(r.modes, mode)
		r.patterns = append(r.patterns, regexp.MustCompile(`\A[ \t]*(?P<name>[A-Za-z]{3})`+pattern+`[ \t]*\z`))
	}
	for _, op := range allListed(t) {
		r.codes[op.name+" "+op.mode] = op.code
	}
	return r
}

func (r lineReader) read(line string) (string, bool) {
	for i, pattern := range r.patterns {
		found := pattern.FindStringSubmatch(line)
		if found == nil {
			continue
		}
		// A pattern takes nothing but A .. Z and a .. z as a name, so ToUpper is these alone here.
		code, ok := r.codes[strings.ToUpper(found[pattern.SubexpIndex("name")])+" "+r.modes[i]]
		if !ok {
			continue
		}
		bytes := []byte{byte(code)}
		for _, part := range []string{"lo", "hi"} {
			if at := pattern.SubexpIndex(part); at > 0 {
				v, _ := strconv.ParseUint(found[at], 16, 8)
				bytes = append(bytes, byte(v))
			}
		}
		return string(bytes), true
	}
	return "", false
}

// TestAsmOfNearTexts: a right line of each mode with each byte put in, or instead of one, at each place, and with one taken out.
func TestAsmOfNearTexts(t *testing.T) {
	r := newLineReader(t)
	read := 0
	check := func(line string) {
		want, wantOk := r.read(line)
		checkAsm(t, line, want, wantOk)
		if wantOk {
			read++
		}
	}
	for _, line := range []string{
		"NOP", "ASL A", "LDA #$0A", "LDA $1F", "BNE $FE", "LDA $10,X", "LDX $10,Y", "LDA $1C34", "ORA $12AB,X", "SBC $1234,Y", "EOR ($1C,X)", "STA ($10),Y", "JMP ($1D34)",
	} {
		for at := range len(line) + 1 {
			for b := range 256 {
				sign := string([]byte{byte(b)})
				check(line[:at] + sign + line[at:])
				if at < len(line) {
					check(line[:at] + sign + line[at+1:])
				}
			}
			if at < len(line) {
				check(line[:at] + line[at+1:])
			}
			check(line[:at])
			check(line[at:])
		}
	}
	if read < 500 {
		t.Errorf("%d of the lines are instructions", read)
	}
}

// TestAsmOfMixedTexts: lines put together of parts, so that nearly right ones are among them.
func TestAsmOfMixedTexts(t *testing.T) {
	r := newLineReader(t)
	names := []string{"LDA", "lda", "LDX", "STX", "sty", "ASL", "Jmp", "JSR", "BNE", "BIT", "CPX", "NOP", "BRK", "JAM"}
	parts := []string{"$", "$", "#$", "($", "1", "0A", "fe", "12", "B", ",X", ",Y", "),Y", ",x)", ")", "(", "#", "A", " ", "\t", "X", ",", ";"}
	read := 0
	for seed := range 60000 {
		next := numbersFrom(770000 + seed)
		line := []string{"", "", " ", "\t "}[next(4)] + names[next(len(names))] + []string{" ", " ", " ", "\t", "  ", ""}[next(6)]
		// The first of the parts is mostly one that an operand begins with.
		if next(4) > 0 {
			line += []string{"$", "#$", "($"}[next(3)] + []string{"1f", "A0", "C"}[next(3)]
		}
		for range next(4) {
			line += parts[next(len(parts))]
		}
		want, wantOk := r.read(line)
		checkAsm(t, line, want, wantOk)
		if wantOk {
			read++
		}
	}
	if read < 3000 || read > 50000 {
		t.Errorf("%d of the lines are instructions", read)
	}
}

func TestProgram(t *testing.T) {
	rows := []struct{ text, want string }{
		{"", ""}, {"\n", ""}, {"\n\n\n", ""}, {" ", ""}, {"\t", ""}, {" \t\n\t \n  ", ""},
		{";", ""}, {"; start", ""}, {";start", ""}, {"  ; start", ""}, {"\t;start\n\t \t; x", ""}, {";;", ""}, {"; NOP", ""}, {";NOP\n;NOP", ""}, {";\n\n;\n", ""}, {"; LDA #$05 ; x", ""}, {"; \xff\x00\r", ""},
		{"NOP", "\xea"}, {"NOP\n", "\xea"}, {"\nNOP", "\xea"}, {"\n\nNOP\n\n", "\xea"}, {"NOP\nNOP", "\xea\xea"}, {"NOP\n\n \t\nNOP\n", "\xea\xea"}, {" nop\t\n\tNop", "\xea\xea"},
		{"LDA #$05\nSTA $10\nJMP $0200", "\xa9\x05\x85\x10\x4c\x00\x02"}, {"; start\nLDA #$05\n\n sta $10\nJMP $0200", "\xa9\x05\x85\x10\x4c\x00\x02"},
		{"JMP $0200\nSTA $10\nLDA #$05", "\x4c\x00\x02\x85\x10\xa9\x05"}, {"NOP\n; x\nBRK", "\xea\x00"}, {"NOP\n;\nBRK\n;", "\xea\x00"},
		{"\ndex\nbne $fd\nrts\n", "\xca\xd0\xfd\x60"}, {"BRK\nBRK\nBRK", "\x00\x00\x00"}, {"ASL A\nASL $0A\nASL $000A", "\x0a\x06\x0a\x0e\x0a\x00"},
		{strings.Repeat("\n", 3000) + "NOP", "\xea"}, {strings.Repeat("; x\n", 3000), ""}, {strings.Repeat("jmp ($abcd)\n", 1500), strings.Repeat("\x6c\xcd\xab", 1500)},
	}
	for _, row := range rows {
		checkProgram(t, row.text, row.want, -1)
	}
}

// TestProgramTellsPlace: all Lines count, from 0 on, up to the first one that is none.
func TestProgramTellsPlace(t *testing.T) {
	rows := []struct {
		text string
		want int
	}{
		{"hello", 0}, {"hello\n", 0}, {"hello\nNOP", 0}, {"NOP\nhello", 1}, {"NOP\nhello\nNOP", 1}, {"NOP\nNOP\nhello", 2}, {"NOP\nNOP\nhello\n", 2},
		{"\nhello", 1}, {"\n\n\nhello", 3}, {" \n\t\nhello", 2}, {"; x\nhello", 1}, {"; x\n\n  ;\nNOP\n\nhello\n\n", 5}, {"\nNOP\n\nhello\n; x", 3},
		{"hello\nhello", 0}, {"NOP\nx\ny", 1}, {"x\nNOP\ny", 0}, {"NOP\nx\nNOP\ny\nNOP", 1},
		{"NOP ; x", 0}, {"NOP;", 0}, {"NOP\nLDA #$05 ; x", 1}, {"NOP ;", 0}, {"x ; y", 0}, {"x;", 0}, {"LDA ;", 0}, {"LDA ;#$05", 0},
		{"NOP\r\nNOP", 0}, {"NOP\nNOP\r", 1}, {"\r", 0}, {"\r\n", 0}, {"\n\r\n", 1}, {"\r;", 0}, {"\v; x", 0}, {"\x00", 0}, {"\u00a0", 0}, {"\u00a0;", 0}, {"\uff1b", 0}, {"\u037e x", 0}, {"\xff; x", 0},
		{"JAM", 0}, {"NOP\nJAM", 1}, {"NOP\nNOP NOP", 1}, {"LDA\n#$05", 0}, {"NOP\n#$05", 1}, {"# x", 0}, {"// x", 0}, {"NOP\n: x", 1}, {"NOP\nSTA #$05\nhello", 1},
		{strings.Repeat("\n", 3000) + "x", 3000}, {strings.Repeat("NOP\n", 1500) + "x", 1500}, {strings.Repeat("; x\n", 3000) + "x\n", 3000},
	}
	for _, row := range rows {
		checkProgram(t, row.text, "", row.want)
	}
}

// programTold is a program by its lines, each read by a pattern.
func (r lineReader) programTold(text string) (string, int) {
	all := ""
	for place, line := range strings.Split(text, "\n") {
		line = strings.Trim(line, " \t")
		if line == "" || line[0] == 59 {
			continue
		}
		bytes, ok := r.read(line)
		if !ok {
			return "", place
		}
		all += bytes
	}
	return all, -1
}

// mixedLines are mostly right ones, with notes and empty ones between.
func mixedLines(next func(int) int, list []listed, odd int) string {
	var text strings.Builder
	for range next(12) {
		op := list[next(len(list))]
		line := smallLetters(writtenOf(op, next(256), next(256)), next(4))
		if next(3) == 0 {
			line = strings.Replace(line, " ", []string{"\t", "   ", " \t"}[next(3)], 1)
		}
		switch next(10) {
		case 0:
			line = ""
		case 1:
			line = ";" + line
		case 2:
			line = []string{"; ", ";", " \t"}[next(3)]
		}
		if next(odd) == 0 {
			line += []string{" ;", "x", "\r", " NOP", ",X", "0"}[next(6)]
		}
		text.WriteString([]string{"", "", " ", "\t", " \t "}[next(5)] + line + []string{"", "", " ", "\t"}[next(4)] + "\n")
	}
	return text.String()
}

func TestProgramOfMixedLines(t *testing.T) {
	r, list := newLineReader(t), allListed(t)
	whole := 0
	for seed := range 4000 {
		text := mixedLines(numbersFrom(880000+seed), list, 16)
		want, wantPlace := r.programTold(text)
		checkProgram(t, text, want, wantPlace)
		checkProgram(t, strings.TrimSuffix(text, "\n"), want, wantPlace)
		if wantPlace == -1 {
			whole++
		}
	}
	if whole < 1500 || whole > 3500 {
		t.Errorf("%d of the texts are programs", whole)
	}
	for _, text := range shortTexts("NOP\n ;", 6) {
		want, wantPlace := r.programTold(text)
		checkProgram(t, text, want, wantPlace)
	}
}

// TestProgramsAreTheirLines: the bytes are those of Asm of each line, and two programs, one behind the other, are both; of
// one that isn't, the place counts on from the lines ahead.
func TestProgramsAreTheirLines(t *testing.T) {
	list := allListed(t)
	for seed := range 1500 {
		next := numbersFrom(990000 + seed)
		first, second := mixedLines(next, list, 1000000), mixedLines(next, list, 1000000)
		a, aPlace := impl.Program(first)
		b, bPlace := impl.Program(second)
		if aPlace != -1 || bPlace != -1 {
			t.Fatalf("Program(%q) tells %d, Program(%q) tells %d", first, aPlace, second, bPlace)
		}
		all := ""
		for _, line := range impl.Lines(first + second) {
			bytes, _ := impl.Asm(line)
			all += bytes
		}
		if all != a+b {
			t.Errorf("of %q: %q, and line by line %q", first+second, a+b, all)
		}
		checkProgram(t, first+second, a+b, -1)
		checkProgram(t, first+"hello\n"+second, "", strings.Count(first, "\n"))
		checkProgram(t, first+"\n"+second+"LDA", "", strings.Count(first+second, "\n")+1)
	}
}

func TestListOfProgram(t *testing.T) {
	m := memOf(t, "0200 A9058510EA0AB60F6C3412D0FE9D00A0B1FE81010260")
	want := []string{
		"0200 LDA #$05", "0202 STA $10", "0204 NOP", "0205 ASL A", "0206 LDX $0F,Y", "0208 JMP ($1234)", "020B BNE $FE", "020D STA $A000,X",
		"0210 LDA ($FE),Y", "0212 STA ($01,X)", "0214 JAM", "0215 RTS", "0216 BRK", "0217 BRK",
	}
	for n := range len(want) + 1 {
		checkList(t, m, 0x200, n, want[:n])
	}
	// From within an instruction on, its operands are others.
	checkList(t, m, 0x201, 3, []string{"0201 ORA $85", "0203 BPL $EA", "0205 ASL A"})
	checkList(t, m, 0x600, 2, []string{"0600 LDA #$05", "0602 STA $10"})
}

// TestListOverBorders: instructions that go on at 0, at another round of Ram or Rom, or where nothing is.
func TestListOverBorders(t *testing.T) {
	m := memOf(t, "0000 3412EA", "03FE 4CAB", "F000 A5", "FFFD EA8D78")
	rows := []struct {
		addr, n int
		want    []string
	}{
		{0xFFFE, 4, []string{"FFFE STA $3478", "0001 JAM", "0002 NOP", "0003 BRK"}},
		{0xFFFF, 2, []string{"FFFF SEI", "0000 JAM"}},
		{0xFFFD, 2, []string{"FFFD NOP", "FFFE STA $3478"}},
		{-1, 2, []string{"FFFF SEI", "0000 JAM"}},
		{-2, 2, []string{"FFFE STA $3478", "0001 JAM"}},
		{65536 + 0xFFFE, 2, []string{"FFFE STA $3478", "0001 JAM"}},
		{math.MaxInt, 3, []string{"FFFF SEI", "0000 JAM", "0001 JAM"}},
		{math.MaxInt - 1, 3, []string{"FFFE STA $3478", "0001 JAM", "0002 NOP"}},
		{math.MinInt, 3, []string{"0000 JAM", "0001 JAM", "0002 NOP"}},
		{0x03FE, 2, []string{"03FE JMP $34AB", "0401 JAM"}},
		{0x1FFE, 2, []string{"1FFE JMP $00AB", "2001 BRK"}},
		{0x2000, 2, []string{"2000 BRK", "2001 BRK"}},
		{0x2FFF, 3, []string{"2FFF BRK", "3000 BRK", "3001 BRK"}},
		{0xEFFF, 2, []string{"EFFF BRK", "F000 LDA $00"}},
		{0xF1FE, 2, []string{"F1FE STA $A578", "F201 BRK"}},
	}
	for _, row := range rows {
		checkList(t, m, row.addr, row.n, row.want)
	}
	// Ram and Rom that end within an instruction, or aren't there.
	checkList(t, impl.Mem{Ram: "\xad"}, 0, 2, []string{"0000 LDA $0000", "0003 BRK"})
	checkList(t, impl.Mem{Ram: "\xad\x12"}, 0, 2, []string{"0000 LDA $0012", "0003 BRK"})
	checkList(t, impl.Mem{Ram: "\x12", Rom: "\x10\x20\x30"}, 0xF000, 2, []string{"F000 BPL $20", "F002 BMI $00"})
	checkList(t, impl.Mem{Rom: strings.Repeat("\x00", 511) + "\x4c"}, 0xFFFF, 2, []string{"FFFF JMP $0000", "0002 BRK"})
	checkList(t, impl.Mem{}, 0xFFFF, 2, []string{"FFFF BRK", "0000 BRK"})
}

func TestListOfManyAndFew(t *testing.T) {
	m := memOf(t, "0000 EAA9058D0020")
	all := []string{"0000 NOP", "0001 LDA #$05", "0003 STA $2000"}
	for i := range 47 {
		all = append(all, fmt.Sprintf("%04X BRK", 6+i))
	}
	for _, n := range []int{0, 1, 2, 3, 4, 49, 50, 51, 52, 100, 5000, math.MaxInt32, math.MaxInt} {
		checkList(t, m, 0, n, all[:min(n, 50)])
	}
	for _, n := range []int{-1, -2, -50, -51, math.MinInt32, math.MinInt + 1, math.MinInt} {
		checkList(t, m, 0, n, nil)
	}
}

func TestListOfWrongMems(t *testing.T) {
	for i, m := range wrongMems() {
		for _, addr := range []int{0, 512, 0x2000, 0xFFFF, -1} {
			for _, n := range []int{-1, 0, 1, 50, 51} {
				if got := impl.List(m, addr, n); len(got) != 0 {
					t.Errorf("of Mem %d from %d: %q", i, addr, got)
				}
			}
		}
	}
	for _, m := range rightMems() {
		if got := impl.List(m, 512, 51); len(got) != 50 {
			t.Errorf("of %d and %d bytes: %q", len(m.Ram), len(m.Rom), got)
		}
	}
}

// listTold are the texts by the forms and what stands in memory.
func listTold(m impl.Mem, addr, n int, list map[int]listed) []string {
	var texts []string
	for range n {
		at := addressOf(addr)
		op, isListed := list[told(m, at, 0)]
		if !isListed {
			op = listed{0, "JAM", "imp"}
		}
		text := writtenOf(op, told(m, addressOf(at+1), 0), told(m, addressOf(at+2), 0))
		texts = append(texts, fmt.Sprintf("%04X %s", at, text))
		addr = at + sizesOfModes()[op.mode]
	}
	return texts
}

func TestListOfMixedMems(t *testing.T) {
	all, list := allListed(t), listByCode(t)
	addresses := append(someAddresses(), noAddresses()...)
	for seed := range 1500 {
		next := numbersFrom(110000 + seed)
		m := impl.Mem{Ram: mixedProgram([]int{1024, 1024, 700, 3, 0}[next(5)], next, all), Rom: mixedProgram([]int{512, 512, 300, 0}[next(4)], next, all)}
		addr := []int{next(1024), 0xF000 + next(4096), 0x1FF0 + next(16), addresses[next(len(addresses))]}[next(4)]
		n := next(51)
		checkList(t, m, addr, n, listTold(m, addr, n, list))
	}
	for _, addr := range addresses {
		m := rightMems()[len(rightMems())-1]
		checkList(t, m, addr, 6, listTold(m, addr, 6, list))
	}
}

// TestListsComeBack: a program that is put in memory, listed, and read again is the same one.
func TestListsComeBack(t *testing.T) {
	list := allListed(t)
	for seed := range 1500 {
		next := numbersFrom(120000 + seed)
		bytes, _ := impl.Program(mixedLines(next, list, 1000000))
		from := []int{next(8192 - 40), 0x200}[next(2)]
		m := impl.Load(impl.Mem{Ram: ramText(next(1025))}, from, bytes)
		again := ""
		for _, text := range impl.List(m, from, 50) {
			if len(again) < len(bytes) {
				one, ok := impl.Asm(text[5:])
				if !ok || text[:5] != fmt.Sprintf("%04X ", from+len(again)) {
					t.Fatalf("seed %d: %q in the list", seed, text)
				}
				again += one
			}
		}
		if again != bytes {
			t.Errorf("seed %d: %q came back as %q", seed, bytes, again)
		}
	}
}

func TestListIsNew(t *testing.T) {
	m := memOf(t, "0200 A9058510EA")
	want := []string{"0200 LDA #$05", "0202 STA $10", "0204 NOP"}
	got := impl.List(m, 0x200, 3)
	_ = append(got, "x")
	for i := range got {
		got[i] = "x"
	}
	checkList(t, m, 0x200, 3, want)
	checkMem(t, "behind List", m, memOf(t, "0200 A9058510EA"))
}

// TestAsmAnswersAlways: a panic fails the test; the same question has the same answer.
func TestAsmAnswersAlways(t *testing.T) {
	r := newLineReader(t)
	for _, text := range oddTexts() {
		for _, asked := range []string{text, "LDA " + text, "LDA #$" + text, "LDA $10" + text, text + "NOP", "NOP" + text, "LDA" + text + "#$0A", "ASL A" + text, text + text} {
			want, wantOk := r.read(asked)
			checkAsm(t, asked, want, wantOk)
			checkAsm(t, asked, want, wantOk)
		}
		for _, asked := range []string{text, "NOP\n" + text, text + "\nNOP", ";" + text, "; " + text + "\nx", text + ";", "NOP\n\n" + text + text} {
			want, wantPlace := r.programTold(asked)
			checkProgram(t, asked, want, wantPlace)
			checkProgram(t, asked, want, wantPlace)
		}
	}
	list := listByCode(t)
	for _, a := range oddNumbers() {
		for _, b := range oddNumbers() {
			for _, c := range []int{0, -1, 5, math.MaxInt, math.MinInt, math.MaxInt - 255} {
				op, isListed := list[byteOf(a)]
				if !isListed {
					op = listed{0, "JAM", "imp"}
				}
				checkText(t, a, b, c, writtenOf(op, byteOf(b), byteOf(c)))
				checkText(t, 0xAD, a, b, writtenOf(list[0xAD], byteOf(a), byteOf(b)))
			}
			m := impl.Mem{Ram: ramText(1024), Rom: romText(512)}
			checkList(t, m, a, b, listTold(m, a, min(max(b, 0), 50), list))
		}
	}
}
