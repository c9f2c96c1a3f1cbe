package tests

import (
	"math"
	"slices"
	"strconv"
	"strings"
	"testing"

	"loop.example/g00760/impl"
)

// theList is the list of the document's chapter 4, as it stands there.
const theList = `
- ADC: inx 61, zpg 65, imm 69, abs 6D, iny 71, zpx 75, aby 79, abx 7D
- AND: inx 21, zpg 25, imm 29, abs 2D, iny 31, zpx 35, aby 39, abx 3D
- ASL: zpg 06, acc 0A, abs 0E, zpx 16, abx 1E
- BCC: rel 90
- BCS: rel B0
- BEQ: rel F0
- BIT: zpg 24, abs 2C
- BMI: rel 30
- BNE: rel D0
- BPL: rel 10
- BRK: imp 00
- BVC: rel 50
- BVS: rel 70
- CLC: imp 18
- CLD: imp D8
- CLI: imp 58
- CLV: imp B8
- CMP: inx C1, zpg C5, imm C9, abs CD, iny D1, zpx D5, aby D9, abx DD
- CPX: imm E0, zpg E4, abs EC
- CPY: imm C0, zpg C4, abs CC
- DEC: zpg C6, abs CE, zpx D6, abx DE
- DEX: imp CA
- DEY: imp 88
- EOR: inx 41, zpg 45, imm 49, abs 4D, iny 51, zpx 55, aby 59, abx 5D
- INC: zpg E6, abs EE, zpx F6, abx FE
- INX: imp E8
- INY: imp C8
- JMP: abs 4C, ind 6C
- JSR: abs 20
- LDA: inx A1, zpg A5, imm A9, abs AD, iny B1, zpx B5, aby B9, abx BD
- LDX: imm A2, zpg A6, abs AE, zpy B6, aby BE
- LDY: imm A0, zpg A4, abs AC, zpx B4, abx BC
- LSR: zpg 46, acc 4A, abs 4E, zpx 56, abx 5E
- NOP: imp EA
- ORA: inx 01, zpg 05, imm 09, abs 0D, iny 11, zpx 15, aby 19, abx 1D
- PHA: imp 48
- PHP: imp 08
- PLA: imp 68
- PLP: imp 28
- ROL: zpg 26, acc 2A, abs 2E, zpx 36, abx 3E
- ROR: zpg 66, acc 6A, abs 6E, zpx 76, abx 7E
- RTI: imp 40
- RTS: imp 60
- SBC: inx E1, zpg E5, imm E9, abs ED, iny F1, zpx F5, aby F9, abx FD
- SEC: imp 38
- SED: imp F8
- SEI: imp 78
- STA: inx 81, zpg 85, abs 8D, iny 91, zpx 95, aby 99, abx 9D
- STX: zpg 86, abs 8E, zpy 96
- STY: zpg 84, abs 8C, zpx 94
- TAX: imp AA
- TAY: imp A8
- TSX: imp BA
- TXA: imp 8A
- TXS: imp 9A
- TYA: imp 98
`

// listed is a place of the list: a byte, and what it is there.
type listed struct {
	code       int
	name, mode string
}

// allListed reads the list with nothing of the program.
func allListed(t *testing.T) []listed {
	t.Helper()
	var all []listed
	for line := range strings.SplitSeq(strings.TrimSpace(theList), "\n") {
		name, places, _ := strings.Cut(strings.TrimPrefix(line, "- "), ": ")
		for place := range strings.SplitSeq(places, ", ") {
			mode, digits, _ := strings.Cut(place, " ")
			code, err := strconv.ParseUint(digits, 16, 8)
			if err != nil {
				t.Fatalf("the list has %q", line)
			}
			all = append(all, listed{int(code), name, mode})
		}
	}
	if len(all) != 151 {
		t.Fatalf("the list has %d instructions", len(all))
	}
	return all
}

func allNames(t *testing.T) []string {
	t.Helper()
	var names []string
	for _, op := range allListed(t) {
		names = append(names, op.name)
	}
	names = slices.Compact(names)
	if len(names) != 56 {
		t.Fatalf("the list has %d names", len(names))
	}
	return names
}

// sizesOfModes are all modes, and how many bytes an instruction of each has.
func sizesOfModes() map[string]int {
	return map[string]int{
		"imp": 1, "acc": 1, "imm": 2, "zpg": 2, "zpx": 2, "zpy": 2, "inx": 2, "iny": 2, "rel": 2,
		"abs": 3, "abx": 3, "aby": 3, "ind": 3,
	}
}

// oddNames are names and modes of no instruction, some of them nearly of one.
func oddNames() []string {
	names := []string{
		"JAM", "jam", "lda", "Lda", "LDa", "IMM", "Imm", "LDA ", " LDA", "LD", "LDAA", "LDA\n", "LDA\x00", "\tLDA", "L", "A",
		"LAX", "SAX", "DCP", "KIL", "HLT", "DOP", "XXX", "???", "LDA imm", "LDA:", "$A9", "A9", "#", "imm ", " imm", "im", "immm",
		"imm\n", "imm\x00", "zp", "zero", "indx", "indy", "xyz", "izx", "zpgx", "none", "0", "-1", "\uff2c\uff24\uff21",
	}
	return append(names, oddTexts()...)
}

func TestInstructionsThereAndBack(t *testing.T) {
	for _, op := range allListed(t) {
		if got, want := impl.OpOf(op.code), (impl.Op{Name: op.name, Mode: op.mode}); got != want {
			t.Errorf("OpOf(%d) = %v, want %v", op.code, got, want)
		}
		if got := impl.CodeOf(op.name, op.mode); got != op.code {
			t.Errorf("CodeOf(%q, %q) = %d, want %d", op.name, op.mode, got, op.code)
		}
	}
}

// TestBytesThereAndBack: 151 bytes come back from what they are, each one from
// another instruction; the other 105 are a JAM, that no byte comes back from.
func TestBytesThereAndBack(t *testing.T) {
	isListed := map[int]bool{}
	for _, op := range allListed(t) {
		isListed[op.code] = true
	}
	byOp := map[impl.Op]int{}
	for code := range 256 {
		op := impl.OpOf(code)
		back := impl.CodeOf(op.Name, op.Mode)
		if !isListed[code] {
			if op != (impl.Op{Name: "JAM", Mode: "imp"}) || back != -1 {
				t.Errorf("byte %d is %v, and comes back as %d", code, op, back)
			}
			continue
		}
		if back != code {
			t.Errorf("byte %d is %v, and comes back as %d", code, op, back)
		}
		if other, ok := byOp[op]; ok {
			t.Errorf("bytes %d and %d both are %v", other, code, op)
		}
		byOp[op] = code
	}
	if len(byOp) != 151 {
		t.Errorf("there are %d instructions", len(byOp))
	}
}

func TestJamBytes(t *testing.T) {
	for _, code := range []int{2, 3, 4, 7, 11, 12, 15, 18, 26, 28, 34, 66, 98, 100, 114, 128, 137, 146, 156, 158, 178, 191, 203, 235, 242, 250, 252, 255} {
		if got := impl.OpOf(code); got != (impl.Op{Name: "JAM", Mode: "imp"}) {
			t.Errorf("OpOf(%d) = %v, want a JAM", code, got)
		}
	}
}

// TestCodeOfAllNamesAndModes asks each name with each mode, of the list or not.
func TestCodeOfAllNamesAndModes(t *testing.T) {
	codes := map[impl.Op]int{}
	for _, op := range allListed(t) {
		codes[impl.Op{Name: op.name, Mode: op.mode}] = op.code
	}
	modes := []string{"", "JAM", "IMM", "xyz"}
	for mode := range sizesOfModes() {
		modes = append(modes, mode)
	}
	for _, name := range append(allNames(t), "JAM", "", "LAX", "imp") {
		for _, mode := range modes {
			want, ok := codes[impl.Op{Name: name, Mode: mode}]
			if !ok {
				want = -1
			}
			if got := impl.CodeOf(name, mode); got != want {
				t.Errorf("CodeOf(%q, %q) = %d, want %d", name, mode, got, want)
			}
		}
	}
}

func TestCodeOfRefuses(t *testing.T) {
	rows := [][2]string{
		{"", ""}, {"", "imp"}, {"", "imm"}, {"LDA", ""}, {"NOP", ""}, {"STA", "imm"}, {"LDX", "zpx"}, {"LDY", "zpy"}, {"STX", "zpx"},
		{"STX", "aby"}, {"STY", "abx"}, {"JMP", "inx"}, {"JSR", "ind"}, {"ASL", "imp"}, {"ASL", "imm"}, {"LDA", "acc"}, {"INC", "acc"},
		{"DEC", "imp"}, {"BIT", "imm"}, {"CPX", "zpx"}, {"BNE", "imm"}, {"BNE", "zpg"}, {"BNE", "abs"}, {"NOP", "imm"}, {"NOP", "acc"},
		{"BRK", "imm"}, {"JAM", "imp"}, {"JAM", "acc"}, {"JAM", ""}, {"jam", "imp"}, {"lda", "imm"}, {"Lda", "imm"}, {"LDA", "IMM"},
		{"LDA", "Imm"}, {"lda", "IMM"}, {"imm", "LDA"}, {"LDA ", "imm"}, {" LDA", "imm"}, {"LDA", "imm "}, {"LDA", " imm"}, {"LD", "Aimm"},
		{"LDA imm", ""}, {"", "LDA imm"}, {"LDA\x00", "imm"}, {"LDA", "imm\x00"}, {"LDA\n", "imm"}, {"LDA", "inz"}, {"LDA", "ind"},
	}
	for _, row := range rows {
		if got := impl.CodeOf(row[0], row[1]); got != -1 {
			t.Errorf("CodeOf(%q, %q) = %d, want -1", row[0], row[1], got)
		}
	}
	for _, odd := range oddNames() {
		for _, got := range []int{impl.CodeOf(odd, "imm"), impl.CodeOf(odd, "imp"), impl.CodeOf("LDA", odd), impl.CodeOf("NOP", odd), impl.CodeOf(odd, odd)} {
			if got != -1 {
				t.Errorf("CodeOf with %q = %d, want -1", odd, got)
			}
		}
	}
}

func TestModeSizeOfModes(t *testing.T) {
	for mode, want := range sizesOfModes() {
		if got := impl.ModeSize(mode); got != want {
			t.Errorf("ModeSize(%q) = %d, want %d", mode, got, want)
		}
	}
}

// TestModeSizeOfNoMode asks all texts of three small letters, and those that are nearly modes.
func TestModeSizeOfNoMode(t *testing.T) {
	sizes := sizesOfModes()
	for n := range 26 * 26 * 26 {
		text := string([]byte{'a' + byte(n/26/26), 'a' + byte(n/26%26), 'a' + byte(n%26)})
		if got, want := impl.ModeSize(text), sizes[text]; got != want {
			t.Errorf("ModeSize(%q) = %d, want %d", text, got, want)
		}
	}
	texts := append(oddNames(), allNames(t)...)
	for mode := range sizes {
		texts = append(texts, mode[:1], mode[:2], mode[1:], strings.ToUpper(mode), mode+mode, mode+" ", " "+mode, mode+"\n", mode+"\x00", mode+",")
	}
	for _, text := range texts {
		if got := impl.ModeSize(text); got != 0 {
			t.Errorf("ModeSize(%q) = %d, want 0", text, got)
		}
	}
}

// TestSizeOfEachByte: an instruction's size is that of its mode, and so many of each size there are.
func TestSizeOfEachByte(t *testing.T) {
	sizes, many := sizesOfModes(), [4]int{}
	for _, op := range allListed(t) {
		got := impl.ModeSize(impl.OpOf(op.code).Mode)
		if got != sizes[op.mode] {
			t.Errorf("byte %d has %d bytes, want %d", op.code, got, sizes[op.mode])
			continue
		}
		many[got]++
	}
	if many != [4]int{0, 29, 74, 48} {
		t.Errorf("of sizes there are %v", many)
	}
	for code := range 256 {
		if op := impl.OpOf(code); op.Name == "JAM" && impl.ModeSize(op.Mode) != 1 {
			t.Errorf("JAM of byte %d has %d bytes", code, impl.ModeSize(op.Mode))
		}
	}
}

func TestKindsAreTheirNumbers(t *testing.T) {
	kinds := [...]int{impl.KiRead, impl.KiWrite, impl.KiModify, impl.KiOwn}
	if kinds != [...]int{0, 1, 2, 3} {
		t.Errorf("kinds are %v", kinds)
	}
}

// kindOfListed is the kind of an instruction of the list.
func kindOfListed(name, mode string) int {
	switch {
	case mode == "imp" || mode == "acc" || mode == "rel" || name == "JMP" || name == "JSR":
		return impl.KiOwn
	case name == "STA" || name == "STX" || name == "STY":
		return impl.KiWrite
	case slices.Contains([]string{"ASL", "LSR", "ROL", "ROR", "INC", "DEC"}, name):
		return impl.KiModify
	}
	return impl.KiRead
}

func TestKindOfTheList(t *testing.T) {
	many := [4]int{}
	for _, op := range allListed(t) {
		got, want := impl.KindOf(impl.Op{Name: op.name, Mode: op.mode}), kindOfListed(op.name, op.mode)
		if got != want || impl.KindOf(impl.OpOf(op.code)) != want {
			t.Errorf("KindOf of %s %s = %d, want %d", op.name, op.mode, got, want)
			continue
		}
		many[got]++
	}
	if many != [4]int{74, 13, 24, 40} {
		t.Errorf("of kinds there are %v", many)
	}
}

func TestKindOfSome(t *testing.T) {
	rows := []struct {
		name, mode string
		want       int
	}{
		{"LDA", "imm", impl.KiRead}, {"LDX", "zpy", impl.KiRead}, {"LDY", "abx", impl.KiRead}, {"SBC", "iny", impl.KiRead},
		{"BIT", "zpg", impl.KiRead}, {"CPX", "imm", impl.KiRead}, {"CPY", "abs", impl.KiRead}, {"CMP", "inx", impl.KiRead},
		{"STA", "zpg", impl.KiWrite}, {"STA", "iny", impl.KiWrite}, {"STX", "zpy", impl.KiWrite}, {"STY", "zpx", impl.KiWrite},
		{"ASL", "zpg", impl.KiModify}, {"LSR", "abs", impl.KiModify}, {"ROL", "abx", impl.KiModify}, {"ROR", "zpx", impl.KiModify},
		{"INC", "abs", impl.KiModify}, {"DEC", "abx", impl.KiModify}, {"ASL", "acc", impl.KiOwn}, {"LSR", "acc", impl.KiOwn},
		{"ROL", "acc", impl.KiOwn}, {"ROR", "acc", impl.KiOwn}, {"JMP", "abs", impl.KiOwn}, {"JMP", "ind", impl.KiOwn},
		{"JSR", "abs", impl.KiOwn}, {"BNE", "rel", impl.KiOwn}, {"NOP", "imp", impl.KiOwn}, {"BRK", "imp", impl.KiOwn},
		{"PHA", "imp", impl.KiOwn}, {"INX", "imp", impl.KiOwn}, {"RTS", "imp", impl.KiOwn}, {"TAX", "imp", impl.KiOwn},
	}
	for _, row := range rows {
		if got := impl.KindOf(impl.Op{Name: row.name, Mode: row.mode}); got != row.want {
			t.Errorf("KindOf of %s %s = %d, want %d", row.name, row.mode, got, row.want)
		}
	}
}

// TestKindOfNoInstruction: what is none of the table is KiOwn, whatever its name or its mode promise.
func TestKindOfNoInstruction(t *testing.T) {
	inList := map[impl.Op]bool{}
	for _, op := range allListed(t) {
		inList[impl.Op{Name: op.name, Mode: op.mode}] = true
	}
	names := append(allNames(t), "", "JAM", "lda", "sta", "inc", "LAX", "LDA ")
	modes := []string{"", "IMM", "ABS", "xyz", "zpg ", "JAM"}
	for mode := range sizesOfModes() {
		modes = append(modes, mode)
	}
	for _, name := range names {
		for _, mode := range modes {
			op := impl.Op{Name: name, Mode: mode}
			if got := impl.KindOf(op); !inList[op] && got != impl.KiOwn {
				t.Errorf("KindOf(%v) = %d, want %d", op, got, impl.KiOwn)
			}
		}
	}
	for _, odd := range oddNames() {
		for _, op := range []impl.Op{{Name: odd, Mode: "abs"}, {Name: "STA", Mode: odd}, {Name: "INC", Mode: odd}, {Name: "LDA", Mode: odd}, {Name: odd, Mode: odd}} {
			if got := impl.KindOf(op); got != impl.KiOwn {
				t.Errorf("KindOf(%q) = %d, want %d", op, got, impl.KiOwn)
			}
		}
	}
}

func TestKindOfJam(t *testing.T) {
	for code := range 256 {
		if op := impl.OpOf(code); op.Name == "JAM" && impl.KindOf(op) != impl.KiOwn {
			t.Errorf("KindOf(OpOf(%d)) = %d, want %d", code, impl.KindOf(op), impl.KiOwn)
		}
	}
}

func TestOpOfNoBytes(t *testing.T) {
	rows := []struct {
		code int
		want impl.Op
	}{
		{-1, impl.Op{Name: "JAM", Mode: "imp"}}, {-256, impl.Op{Name: "BRK", Mode: "imp"}}, {256, impl.Op{Name: "BRK", Mode: "imp"}},
		{-2, impl.Op{Name: "INC", Mode: "abx"}}, {256 + 169, impl.Op{Name: "LDA", Mode: "imm"}}, {169 - 256, impl.Op{Name: "LDA", Mode: "imm"}},
		{257, impl.Op{Name: "ORA", Mode: "inx"}}, {258, impl.Op{Name: "JAM", Mode: "imp"}}, {65536 + 108, impl.Op{Name: "JMP", Mode: "ind"}},
		{math.MaxInt, impl.Op{Name: "JAM", Mode: "imp"}}, {math.MinInt, impl.Op{Name: "BRK", Mode: "imp"}},
		{math.MaxInt - 1, impl.Op{Name: "INC", Mode: "abx"}}, {math.MinInt + 1, impl.Op{Name: "ORA", Mode: "inx"}},
	}
	for _, row := range rows {
		if got := impl.OpOf(row.code); got != row.want {
			t.Errorf("OpOf(%d) = %v, want %v", row.code, got, row.want)
		}
	}
	for _, far := range noBytes() {
		if got, want := impl.OpOf(far), impl.OpOf(byteOf(far)); got != want {
			t.Errorf("OpOf(%d) = %v, want %v", far, got, want)
		}
	}
}

// TestInstructionsAnswerAlways: a panic fails the test; the same question has the same answer.
func TestInstructionsAnswerAlways(t *testing.T) {
	for _, n := range append(oddNumbers(), noBytes()...) {
		op := impl.OpOf(n)
		if op != impl.OpOf(n) || len(op.Name) != 3 || impl.ModeSize(op.Mode) == 0 {
			t.Errorf("OpOf(%d) = %v", n, op)
		}
		op.Name, op.Mode = "spoiled", "spoiled"
		if op == impl.OpOf(n) {
			t.Errorf("OpOf(%d) gives out what it keeps", n)
		}
	}
	texts := append(oddNames(), "LDA", "JMP", "STA", "INC", "imm", "abs", "imp")
	for _, x := range texts {
		for _, y := range []string{"LDA", "imm", "abs", "imp", "", x} {
			code, kind := impl.CodeOf(x, y), impl.KindOf(impl.Op{Name: x, Mode: y})
			if code != impl.CodeOf(x, y) || code < -1 || code > 255 {
				t.Errorf("CodeOf(%q, %q) = %d", x, y, code)
			}
			if kind != impl.KindOf(impl.Op{Name: x, Mode: y}) || kind < impl.KiRead || kind > impl.KiOwn {
				t.Errorf("KindOf of %q, %q = %d", x, y, kind)
			}
		}
		if size := impl.ModeSize(x); size != impl.ModeSize(x) || size < 0 || size > 3 {
			t.Errorf("ModeSize(%q) = %d", x, size)
		}
	}
}
