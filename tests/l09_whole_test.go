package tests

import (
	"math"
	"slices"
	"strings"
	"testing"

	"loop.example/g00760/impl"
)

// baseRegs are those that every row below begins with, but for what it tells itself.
func baseRegs() impl.Regs {
	return impl.Regs{A: 0x10, X: 0x05, Y: 0x03, S: 0xFD, P: impl.FlU, Pc: 0x0200}
}

// regsOf are r, but for what a text like "PC=0202 A=80 P=N.U....." tells.
func regsOf(t *testing.T, r impl.Regs, text string) impl.Regs {
	t.Helper()
	parts := map[string]*int{"A": &r.A, "X": &r.X, "Y": &r.Y, "S": &r.S, "PC": &r.Pc}
	for word := range strings.FieldsSeq(text) {
		part, value, _ := strings.Cut(word, "=")
		v := -1
		if part == "P" {
			v, parts[part] = impl.ReadFlags(value), &r.P
		} else {
			v = impl.ReadHex(value)
		}
		if v < 0 || parts[part] == nil {
			t.Fatalf("the test has %q", text)
		}
		*parts[part] = v
	}
	return r
}

// bytesOf are those of an even number of digits.
func bytesOf(t *testing.T, digits string) []byte {
	t.Helper()
	var bytes []byte
	for i := 0; i < len(digits); i += 2 {
		v := impl.ReadHex(digits[i:min(i+2, len(digits))])
		if v < 0 {
			t.Fatalf("the test has %q", digits)
		}
		bytes = append(bytes, byte(v))
	}
	return bytes
}

// memOf is a whole Ram and Rom of noughts, but for what texts like "0010 2003" tell.
func memOf(t *testing.T, texts ...string) impl.Mem {
	t.Helper()
	ram, rom := make([]byte, 1024), make([]byte, 512)
	for _, text := range texts {
		at, digits, _ := strings.Cut(text, " ")
		addr := impl.ReadHex(at)
		for i, v := range bytesOf(t, digits) {
			here := (addr + i) % 65536
			switch ownerOf(here) {
			case impl.WhRam:
				ram[here%1024] = v
			case impl.WhRom:
				rom[here%512] = v
			default:
				t.Fatalf("the test puts a byte at %04X", here)
			}
		}
	}
	return impl.Mem{Ram: string(ram), Rom: string(rom)}
}

// busText is a list as the rows below tell it.
func busText(list []impl.Bus) string {
	words := []string{}
	for _, b := range list {
		way := "r"
		if b.Write {
			way = "w"
		}
		words = append(words, impl.HexText(b.Addr, 4)+way+impl.HexText(b.Data, 2))
	}
	return strings.Join(words, " ")
}

// lastData is the byte that was on the bus at last, or what was open where there was none.
func lastData(list []impl.Bus, open int) int {
	if len(list) == 0 {
		return open
	}
	return list[len(list)-1].Data
}

// written is the Mem behind all writes of a list.
func written(m impl.Mem, list []impl.Bus) impl.Mem {
	for _, b := range list {
		if b.Write && ownerOf(b.Addr) == impl.WhRam {
			m.Ram = pokedRam(m.Ram, b.Addr%1024, b.Data)
		}
	}
	return m
}

// checkFlat tells no more of a Mem than where it isn't alike.
func checkFlat(t *testing.T, what string, got, want impl.Flat) {
	t.Helper()
	if got.Regs != want.Regs || got.Open != want.Open || got.Jam != want.Jam {
		t.Errorf("%s: %+v, open %d, jam %t, want %+v, open %d, jam %t", what, got.Regs, got.Open, got.Jam, want.Regs, want.Open, want.Jam)
	}
	checkMem(t, what, got.Mem, want.Mem)
}

// oneDone is what is told of an instruction by hand: code stands at PC, whose Ram and Rom have what base and mem tell.
type oneDone struct {
	what   string
	code   string
	before string
	mem    string
	bus    string
	after  string
}

// baseMem stands in the Mem of every row.
const baseMem = "0010 2003,0015 33,0320 7F44"

func checkDone(t *testing.T, rows []oneDone) {
	t.Helper()
	for _, row := range rows {
		r := regsOf(t, baseRegs(), row.before)
		texts := strings.Split(baseMem+","+impl.HexText(r.Pc, 4)+" "+row.code, ",")
		if row.mem != "" {
			texts = append(texts, strings.Split(row.mem, ",")...)
		}
		f := impl.Flat{Regs: r, Mem: memOf(t, texts...), Open: 0x99}
		got, bus := impl.Do(f)
		if busText(bus) != row.bus {
			t.Errorf("%s:\n did %s\nwant %s", row.what, busText(bus), row.bus)
		}
		want := impl.Flat{Regs: regsOf(t, r, row.after), Mem: written(f.Mem, bus), Open: lastData(bus, -1)}
		checkFlat(t, row.what, got, want)
	}
}

func TestDoReads(t *testing.T) {
	checkDone(t, []oneDone{
		{"imm", "A980", "", "", "0200rA9 0201r80", "PC=0202 A=80 P=N.U....."},
		{"imm of 0", "A900", "P=NVU.DI.C", "", "0200rA9 0201r00", "PC=0202 A=00 P=.VU.DIZC"},
		{"zpg", "A510", "", "", "0200rA5 0201r10 0010r20", "PC=0202 A=20"},
		{"zpx", "B510", "", "", "0200rB5 0201r10 0010r20 0015r33", "PC=0202 A=33"},
		{"zpx with 0", "B510", "X=00", "", "0200rB5 0201r10 0010r20 0010r20", "PC=0202 A=20"},
		{"zpx at the end of page 0", "B5F0", "X=0F", "00F0 66,00FF 21", "0200rB5 0201rF0 00F0r66 00FFr21", "PC=0202 A=21"},
		{"zpx beyond page 0", "B5F0", "X=20", "00F0 66", "0200rB5 0201rF0 00F0r66 0010r20", "PC=0202 A=20"},
		{"zpy", "B612", "", "0012 44", "0200rB6 0201r12 0012r44 0015r33", "PC=0202 X=33"},
		{"zpy beyond page 0", "B6FF", "", "00FF 0A,0002 81", "0200rB6 0201rFF 00FFr0A 0002r81", "PC=0202 X=81 P=N.U....."},
		{"abs", "AD2003", "", "", "0200rAD 0201r20 0202r03 0320r7F", "PC=0203 A=7F"},
		{"abx", "BD1B03", "", "", "0200rBD 0201r1B 0202r03 0320r7F", "PC=0203 A=7F"},
		{"abx to the end of a page", "BDF003", "X=0F", "03FF 01", "0200rBD 0201rF0 0202r03 03FFr01", "PC=0203 A=01"},
		{"abx to the next page", "BDF002", "X=10", "0300 81", "0200rBD 0201rF0 0202r02 0200rBD 0300r81", "PC=0203 A=81 P=N.U....."},
		{"abx beyond a page", "BDF002", "X=30", "0220 55", "0200rBD 0201rF0 0202r02 0220r55 0320r7F", "PC=0203 A=7F"},
		{"abx beyond the last page", "BDF0FF", "X=20", "FF10 5A", "0200rBD 0201rF0 0202rFF FF10r5A 0010r20", "PC=0203 A=20"},
		{"aby", "B91D03", "", "", "0200rB9 0201r1D 0202r03 0320r7F", "PC=0203 A=7F"},
		{"aby to the end of a page", "B90003", "Y=FF", "03FF 01", "0200rB9 0201r00 0202r03 03FFr01", "PC=0203 A=01"},
		{"aby beyond a page", "B9FF02", "Y=21", "0220 55", "0200rB9 0201rFF 0202r02 0220r55 0320r7F", "PC=0203 A=7F"},
		{"aby of X", "BE1F03", "Y=01", "", "0200rBE 0201r1F 0202r03 0320r7F", "PC=0203 X=7F"},
		{"abx of Y", "BC1B03", "", "", "0200rBC 0201r1B 0202r03 0320r7F", "PC=0203 Y=7F"},
		{"inx", "A10B", "", "", "0200rA1 0201r0B 000Br00 0010r20 0011r03 0320r7F", "PC=0202 A=7F"},
		{"inx beyond page 0", "A1F0", "X=20", "00F0 66", "0200rA1 0201rF0 00F0r66 0010r20 0011r03 0320r7F", "PC=0202 A=7F"},
		{"inx with high at 0", "A1FA", "", "00FF 20,0000 03,0100 77", "0200rA1 0201rFA 00FAr00 00FFr20 0000r03 0320r7F", "PC=0202 A=7F"},
		{"iny", "B110", "Y=01", "", "0200rB1 0201r10 0010r20 0011r03 0321r44", "PC=0202 A=44"},
		{"iny to the end of a page", "B110", "Y=DF", "03FF 01", "0200rB1 0201r10 0010r20 0011r03 03FFr01", "PC=0202 A=01"},
		{"iny beyond a page", "B110", "Y=F0", "0310 55", "0200rB1 0201r10 0010r20 0011r03 0310r55 0410r20", "PC=0202 A=20"},
		{"iny with high at 0", "B1FF", "Y=01", "00FF 20,0000 03,0100 77", "0200rB1 0201rFF 00FFr20 0000r03 0321r44", "PC=0202 A=44"},
		{"iny beyond the last page", "B1FF", "Y=20", "00FF F0,0000 FF,FF10 5A", "0200rB1 0201rFF 00FFrF0 0000rFF FF10r5A 0010r20", "PC=0202 A=20"},
		{"AND", "2D2003", "A=F0", "", "0200r2D 0201r20 0202r03 0320r7F", "PC=0203 A=70"},
		{"CMP", "C920", "P=..U....C", "", "0200rC9 0201r20", "PC=0202 P=N.U....."},
		{"ADC by tens", "6946", "A=58 P=..U.D..C", "", "0200r69 0201r46", "PC=0202 A=05 P=NVU.D..C"},
		{"BIT", "2C2003", "A=80", "", "0200r2C 0201r20 0202r03 0320r7F", "PC=0203 P=.VU...Z."},
	})
}

func TestDoWrites(t *testing.T) {
	checkDone(t, []oneDone{
		{"A, zpg", "8510", "", "", "0200r85 0201r10 0010w10", "PC=0202"},
		{"X, zpg", "8610", "", "", "0200r86 0201r10 0010w05", "PC=0202"},
		{"Y, zpg", "8410", "", "", "0200r84 0201r10 0010w03", "PC=0202"},
		{"A, zpx", "9510", "A=00", "", "0200r95 0201r10 0010r20 0015w00", "PC=0202"},
		{"A, zpx, beyond page 0", "95F0", "X=11", "00F0 66", "0200r95 0201rF0 00F0r66 0001w10", "PC=0202"},
		{"Y, zpx", "9410", "Y=FF", "", "0200r94 0201r10 0010r20 0015wFF", "PC=0202"},
		{"X, zpy", "96FE", "", "", "0200r96 0201rFE 00FEr00 0001w05", "PC=0202"},
		{"A, abs", "8D2003", "", "", "0200r8D 0201r20 0202r03 0320w10", "PC=0203"},
		{"X, abs", "8E2003", "", "", "0200r8E 0201r20 0202r03 0320w05", "PC=0203"},
		{"Y, abs", "8C2003", "", "", "0200r8C 0201r20 0202r03 0320w03", "PC=0203"},
		{"A, abs, the same place", "8D1004", "", "", "0200r8D 0201r10 0202r04 0410w10", "PC=0203"},
		{"A, abx", "9D1B03", "", "", "0200r9D 0201r1B 0202r03 0320r7F 0320w10", "PC=0203"},
		{"A, abx, beyond a page", "9DFE02", "", "0203 88", "0200r9D 0201rFE 0202r02 0203r88 0303w10", "PC=0203"},
		{"A, aby", "991E03", "", "", "0200r99 0201r1E 0202r03 0321r44 0321w10", "PC=0203"},
		{"A, aby, beyond a page", "99FE02", "", "", "0200r99 0201rFE 0202r02 0201rFE 0301w10", "PC=0203"},
		{"A, inx", "810B", "", "", "0200r81 0201r0B 000Br00 0010r20 0011r03 0320w10", "PC=0202"},
		{"A, inx, high at 0", "81FA", "", "00FF 20,0000 03", "0200r81 0201rFA 00FAr00 00FFr20 0000r03 0320w10", "PC=0202"},
		{"A, iny", "9110", "", "", "0200r91 0201r10 0010r20 0011r03 0323r00 0323w10", "PC=0202"},
		{"A, iny, beyond a page", "9110", "Y=F0", "0310 55", "0200r91 0201r10 0010r20 0011r03 0310r55 0410w10", "PC=0202"},
		{"over itself", "8D0102", "", "", "0200r8D 0201r01 0202r02 0201w10", "PC=0203"},
	})
}

func TestDoModifies(t *testing.T) {
	checkDone(t, []oneDone{
		{"INC zpg", "E610", "", "", "0200rE6 0201r10 0010r20 0010w20 0010w21", "PC=0202"},
		{"INC of 255", "E610", "P=N.U....C", "0010 FF", "0200rE6 0201r10 0010rFF 0010wFF 0010w00", "PC=0202 P=..U...ZC"},
		{"DEC zpx of 0", "D610", "", "0015 00", "0200rD6 0201r10 0010r20 0015r00 0015w00 0015wFF", "PC=0202 P=N.U....."},
		{"ROL zpx beyond page 0", "36F0", "X=20", "00F0 66", "0200r36 0201rF0 00F0r66 0010r20 0010w20 0010w40", "PC=0202"},
		{"ASL abs", "0E2003", "P=..U....C", "", "0200r0E 0201r20 0202r03 0320r7F 0320w7F 0320wFE", "PC=0203 P=N.U....."},
		{"ROR abx", "7E1B03", "P=..U....C", "", "0200r7E 0201r1B 0202r03 0320r7F 0320r7F 0320w7F 0320wBF", "PC=0203 P=N.U....C"},
		{"LSR abx beyond a page", "5EF002", "X=30", "0220 55", "0200r5E 0201rF0 0202r02 0220r55 0320r7F 0320w7F 0320w3F", "PC=0203 P=..U....C"},
		{"ASL acc", "0A", "A=81", "", "0200r0A 0201r00", "PC=0201 A=02 P=..U....C"},
		{"LSR acc", "4A66", "A=01", "", "0200r4A 0201r66", "PC=0201 A=00 P=..U...ZC"},
		{"ROL acc", "2A", "A=40 P=..U....C", "", "0200r2A 0201r00", "PC=0201 A=81 P=N.U....."},
		{"ROR acc", "6A", "A=02 P=..U....C", "", "0200r6A 0201r00", "PC=0201 A=81 P=N.U....."},
	})
}

func TestDoWithoutOperands(t *testing.T) {
	checkDone(t, []oneDone{
		{"NOP", "EA66", "P=NVU.DIZC", "", "0200rEA 0201r66", "PC=0201"},
		{"TAX", "AA", "A=00", "", "0200rAA 0201r00", "PC=0201 X=00 P=..U...Z."},
		{"TXA", "8A", "X=80", "", "0200r8A 0201r00", "PC=0201 A=80 P=N.U....."},
		{"TXS", "9A", "X=80", "", "0200r9A 0201r00", "PC=0201 S=80"},
		{"TSX", "BA", "S=80", "", "0200rBA 0201r00", "PC=0201 X=80 P=N.U....."},
		{"INX of 255", "E8", "X=FF", "", "0200rE8 0201r00", "PC=0201 X=00 P=..U...Z."},
		{"DEY of 0", "88", "Y=00", "", "0200r88 0201r00", "PC=0201 Y=FF P=N.U....."},
		{"SED", "F8", "", "", "0200rF8 0201r00", "PC=0201 P=..U.D..."},
		{"CLI", "58", "P=NVU.DIZC", "", "0200r58 0201r00", "PC=0201 P=NVU.D.ZC"},
	})
}

// TestDoAtTheLastAddress: behind Pc 65535 comes 0.
func TestDoAtTheLastAddress(t *testing.T) {
	checkDone(t, []oneDone{
		{"imm", "A903", "PC=FFFF", "", "FFFFrA9 0000r03", "PC=0001 A=03"},
		{"abs from the last but one", "AD2003", "PC=FFFE", "", "FFFErAD FFFFr20 0000r03 0320r7F", "PC=0001 A=7F"},
		{"abs from the last", "AD2003", "PC=FFFF", "", "FFFFrAD 0000r20 0001r03 0320r7F", "PC=0002 A=7F"},
		{"imp", "EA77", "PC=FFFF", "", "FFFFrEA 0000r77", "PC=0000"},
		{"BRK from the last but one", "0034", "PC=FFFE", "", "FFFEr00 FFFFr34 01FDw00 01FCw00 01FBw30 FFFEr00 FFFFr34", "PC=3400 S=FA P=..U..I.."},
		{"a branch forth", "D020", "PC=FFF0", "FF12 44", "FFF0rD0 FFF1r20 FFF2r00 FF12r44", "PC=0012"},
		{"a branch back", "D080", "PC=0000", "0082 44", "0000rD0 0001r80 0002r00 0082r44", "PC=FF82"},
		{"JSR", "204003", "PC=FFFE", "", "FFFEr20 FFFFr40 01FDr00 01FDw00 01FCw00 0000r03", "PC=0340 S=FB"},
		{"RTS to 65535", "60", "S=FB", "01FC FFFF,FFFF 66", "0200r60 0201r00 01FBr00 01FCrFF 01FDrFF FFFFr66", "PC=0000 S=FD"},
	})
}

func TestDoPushesAndPulls(t *testing.T) {
	checkDone(t, []oneDone{
		{"PHA", "4866", "", "", "0200r48 0201r66 01FDw10", "PC=0201 S=FC"},
		{"PHA at 0", "48", "S=00", "", "0200r48 0201r00 0100w10", "PC=0201 S=FF"},
		{"PHP of none", "0866", "", "", "0200r08 0201r66 01FDw30", "PC=0201 S=FC"},
		{"PHP of all at 0", "08", "S=00 P=NVU.DIZC", "", "0200r08 0201r00 0100wFF", "PC=0201 S=FF"},
		{"PLA", "6866", "S=FC", "01FC 1180", "0200r68 0201r66 01FCr11 01FDr80", "PC=0201 A=80 S=FD P=N.U....."},
		{"PLA of 0 at 255", "68", "S=FF P=N.U....C", "01FF 11,0100 00", "0200r68 0201r00 01FFr11 0100r00", "PC=0201 A=00 S=00 P=..U...ZC"},
		{"PLP of all", "2866", "S=FC", "01FC 11FF", "0200r28 0201r66 01FCr11 01FDrFF", "PC=0201 S=FD P=NVU.DIZC"},
		{"PLP of none at 255", "28", "S=FF P=NVU.DIZC", "01FF 11,0100 00", "0200r28 0201r00 01FFr11 0100r00", "PC=0201 S=00 P=..U....."},
		{"PLP of B alone", "28", "S=FC", "01FC 1110", "0200r28 0201r00 01FCr11 01FDr10", "PC=0201 S=FD P=..U....."},
		{"JSR", "204003", "", "01FD 77", "0200r20 0201r40 01FDr77 01FDw02 01FCw02 0202r03", "PC=0340 S=FB"},
		{"JSR at 0", "204003", "S=00", "0100 77", "0200r20 0201r40 0100r77 0100w02 01FFw02 0202r03", "PC=0340 S=FE"},
		{"JSR at 1", "204003", "S=01 PC=12FE", "", "12FEr20 12FFr40 0101r00 0101w13 0100w00 1300r03", "PC=0340 S=FF"},
		{"JSR over its own high", "204003", "PC=01FB", "", "01FBr20 01FCr40 01FDr03 01FDw01 01FCwFD 01FDr01", "PC=0140 S=FB"},
		{"RTS", "6066", "S=FB", "01FB 113402,0234 55", "0200r60 0201r66 01FBr11 01FCr34 01FDr02 0234r55", "PC=0235 S=FD"},
		{"RTS at 254", "60", "S=FE", "01FE 1134,0100 02", "0200r60 0201r00 01FEr11 01FFr34 0100r02 0234r00", "PC=0235 S=00"},
		{"RTI", "4066", "S=FA", "01FA 11C33402", "0200r40 0201r66 01FAr11 01FBrC3 01FCr34 01FDr02", "PC=0234 S=FD P=NVU...ZC"},
		{"RTI at 255", "40", "S=FF P=NVU.DIZC", "01FF 11,0100 103402", "0200r40 0201r00 01FFr11 0100r10 0101r34 0102r02", "PC=0234 S=02 P=..U....."},
		{"BRK", "0077", "", "FFFE 3412", "0200r00 0201r77 01FDw02 01FCw02 01FBw30 FFFEr34 FFFFr12", "PC=1234 S=FA P=..U..I.."},
		{"BRK with all notes", "0077", "P=NVU.DIZC", "FFFE 3412", "0200r00 0201r77 01FDw02 01FCw02 01FBwFF FFFEr34 FFFFr12", "PC=1234 S=FA"},
		{"BRK at 1", "0077", "S=01 PC=13FD", "FFFE 3412", "13FDr00 13FEr77 0101w13 0100wFF 01FFw30 FFFEr34 FFFFr12", "PC=1234 S=FE P=..U..I.."},
	})
}

func TestDoJumpsAndBranches(t *testing.T) {
	checkDone(t, []oneDone{
		{"JMP abs", "4C4003", "", "", "0200r4C 0201r40 0202r03", "PC=0340"},
		{"JMP ind", "6C2003", "", "", "0200r6C 0201r20 0202r03 0320r7F 0321r44", "PC=447F"},
		{"JMP ind at a page's end", "6CFF02", "", "02FF 12,0300 99", "0200r6C 0201rFF 0202r02 02FFr12 0200r6C", "PC=6C12"},
		{"JMP ind at the last address", "6CFFFF", "", "FFFF 12,FF00 34", "0200r6C 0201rFF 0202rFF FFFFr12 FF00r34", "PC=3412"},
		{"not taken", "D010", "P=..U...Z.", "", "0200rD0 0201r10", "PC=0202"},
		{"not taken to another page", "D080", "P=..U...Z.", "", "0200rD0 0201r80", "PC=0202"},
		{"taken forth", "D010", "", "0202 66", "0200rD0 0201r10 0202r66", "PC=0212"},
		{"taken nowhere", "D000", "", "0202 66", "0200rD0 0201r00 0202r66", "PC=0202"},
		{"taken back", "D0FE", "", "0202 66", "0200rD0 0201rFE 0202r66", "PC=0200"},
		{"farthest forth", "D07F", "", "", "0200rD0 0201r7F 0202r00", "PC=0281"},
		{"farthest back", "D080", "PC=0280", "", "0280rD0 0281r80 0282r00", "PC=0202"},
		{"to the end of the page", "D00D", "PC=02F0", "", "02F0rD0 02F1r0D 02F2r00", "PC=02FF"},
		{"to the next page", "D00E", "PC=02F0", "0200 55", "02F0rD0 02F1r0E 02F2r00 0200r55", "PC=0300"},
		{"far into the next page", "D07F", "PC=02F0", "0271 55", "02F0rD0 02F1r7F 02F2r00 0271r55", "PC=0371"},
		{"to the start of the page", "D0FE", "PC=0300", "", "0300rD0 0301rFE 0302r00", "PC=0300"},
		{"to the page ahead", "D0FD", "PC=0300", "03FF 55", "0300rD0 0301rFD 0302r00 03FFr55", "PC=02FF"},
		{"far into the page ahead", "D080", "", "0282 55", "0200rD0 0201r80 0202r00 0282r55", "PC=0182"},
		{"back from the next page, where it stands itself", "D0FF", "PC=02FE", "03FF 55", "02FErD0 02FFrFF 0300r00 03FFr55", "PC=02FF"},
		{"forth within the next page", "D001", "PC=02FE", "", "02FErD0 02FFr01 0300r00", "PC=0301"},
		{"BPL", "1004", "", "", "0200r10 0201r04 0202r00", "PC=0206"},
		{"BMI", "3004", "", "", "0200r30 0201r04", "PC=0202"},
		{"BVC", "5004", "P=.VU.....", "", "0200r50 0201r04", "PC=0202"},
		{"BVS", "7004", "P=.VU.....", "", "0200r70 0201r04 0202r00", "PC=0206"},
		{"BCC", "9004", "P=..U....C", "", "0200r90 0201r04", "PC=0202"},
		{"BCS", "B004", "P=..U....C", "", "0200rB0 0201r04 0202r00", "PC=0206"},
		{"BEQ", "F004", "P=..U...Z.", "", "0200rF0 0201r04 0202r00", "PC=0206"},
	})
}

// TestDoElsewhere: what can't be written stays, and what is nobody's is the byte that was last on the bus.
func TestDoElsewhere(t *testing.T) {
	checkDone(t, []oneDone{
		{"a write to the chip", "8D0020", "", "", "0200r8D 0201r00 0202r20 2000w10", "PC=0203"},
		{"a write to the copier", "8D0030", "", "", "0200r8D 0201r00 0202r30 3000w10", "PC=0203"},
		{"a write to nobody", "8D0040", "", "", "0200r8D 0201r00 0202r40 4000w10", "PC=0203"},
		{"a write to Rom", "8D10F0", "", "F010 5A", "0200r8D 0201r10 0202rF0 F010w10", "PC=0203"},
		{"a change of Rom", "EE10F0", "", "F010 5A", "0200rEE 0201r10 0202rF0 F010r5A F010w5A F010w5B", "PC=0203"},
		{"a change of nobody's", "EE0040", "", "", "0200rEE 0201r00 0202r40 4000r40 4000w40 4000w41", "PC=0203"},
		{"a read of the chip's", "AD0120", "", "", "0200rAD 0201r01 0202r20 2001r20", "PC=0203 A=20"},
		{"a read of the copier's", "AD0230", "", "", "0200rAD 0201r02 0202r30 3002r30", "PC=0203 A=30"},
		{"a read of nobody's", "AD00A0", "", "", "0200rAD 0201r00 0202rA0 A000rA0", "PC=0203 A=A0 P=N.U....."},
		{"a read of nobody's on the next page", "BDFF1F", "X=01", "1F00 66", "0200rBD 0201rFF 0202r1F 1F00r66 2000r66", "PC=0203 A=66"},
		{"a read of nobody's behind a read in vain", "BDFF2F", "X=01", "", "0200rBD 0201rFF 0202r2F 2F00r2F 3000r2F", "PC=0203 A=2F"},
		{"JMP by nobody's", "6C0050", "", "", "0200r6C 0201r00 0202r50 5000r50 5001r50", "PC=5050"},
		{"by page 0 to nobody's", "B110", "", "0010 0050", "0200rB1 0201r10 0010r00 0011r50 5003r50", "PC=0202 A=50"},
	})
}

// TestDoAtNobodys: an instruction that is read where nothing stands is the byte that is open.
func TestDoAtNobodys(t *testing.T) {
	rows := []struct {
		open  int
		bus   string
		after string
		jam   bool
	}{
		{0xA9, "5000rA9 5001rA9", "PC=5002 A=A9 P=N.U.....", false},
		{0xEA, "5000rEA 5001rEA", "PC=5001", false},
		{0x48, "5000r48 5001r48 01FDw10", "PC=5001 S=FC", false},
		{0x4C, "5000r4C 5001r4C 5002r4C", "PC=4C4C", false},
		{0x85, "5000r85 5001r85 0085w10", "PC=5002", false},
		{0x10, "5000r10 5001r10 5002r10", "PC=5012", false},
		{0xAD, "5000rAD 5001rAD 5002rAD ADADrAD", "PC=5003 A=AD P=N.U.....", false},
		{0x00, "5000r00 5001r00 01FDw50 01FCw02 01FBw30 FFFEr34 FFFFr12", "PC=1234 S=FA P=..U..I..", false},
		{0xFF, "5000rFF", "PC=5001", true},
	}
	for _, row := range rows {
		r := regsOf(t, baseRegs(), "PC=5000")
		f := impl.Flat{Regs: r, Mem: memOf(t, "FFFE 3412"), Open: row.open}
		got, bus := impl.Do(f)
		if busText(bus) != row.bus {
			t.Errorf("with %02X open:\n did %s\nwant %s", row.open, busText(bus), row.bus)
		}
		checkFlat(t, "with open", got, impl.Flat{Regs: regsOf(t, r, row.after), Mem: written(f.Mem, bus), Open: lastData(bus, -1), Jam: row.jam})
	}
}

// TestDoWithShortMem: what isn't there is 0, and a Ram that is not written to stays as short as it was.
func TestDoWithShortMem(t *testing.T) {
	f := impl.Flat{Regs: regsOf(t, baseRegs(), "PC=0000"), Mem: impl.Mem{Ram: "\xa5\x10"}}
	got, bus := impl.Do(f)
	if busText(bus) != "0000rA5 0001r10 0010r00" {
		t.Error("of a short Ram", busText(bus))
	}
	checkFlat(t, "of a short Ram", got, impl.Flat{Regs: regsOf(t, baseRegs(), "PC=0002 A=00 P=..U...Z."), Mem: f.Mem})
	f = impl.Flat{Regs: regsOf(t, baseRegs(), "PC=F000"), Mem: impl.Mem{Rom: "\x8d\x00\xf0"}}
	got, bus = impl.Do(f)
	if busText(bus) != "F000r8D F001r00 F002rF0 F000w10" {
		t.Error("of a short Rom", busText(bus))
	}
	checkFlat(t, "of a short Rom", got, impl.Flat{Regs: regsOf(t, baseRegs(), "PC=F003"), Mem: f.Mem, Open: 0x10})
	f = impl.Flat{Regs: baseRegs()}
	got, bus = impl.Do(f)
	if busText(bus) != "0200r00 0201r00 01FDw02 01FCw02 01FBw30 FFFEr00 FFFFr00" {
		t.Error("of nothing", busText(bus))
	}
	checkFlat(t, "of nothing", got, impl.Flat{Regs: regsOf(t, baseRegs(), "PC=0000 S=FA P=..U..I.."), Mem: impl.Mem{Ram: memOf(t, "01FB 300202").Ram}})
}

// namedLetters are the names of Apply but those that set A or change a byte, told apart by their letters alone.
func namedLetters(name string) string {
	switch name {
	case "LDA", "LDX", "LDY":
		return "load"
	case "TAX", "TAY", "TXA", "TYA", "TSX":
		return "move"
	case "INX", "INY", "DEX", "DEY":
		return "count"
	case "CLC", "SEC", "CLI", "SEI", "CLV", "CLD", "SED":
		return "note"
	case "CMP", "CPX", "CPY":
		return "compare"
	}
	return ""
}

// appliedOf tells the chapter's words on Apply in another way than the program, for a name of the list and a byte.
func appliedOf(r impl.Regs, name string, v int) (impl.Regs, int) {
	registers := map[string]*int{"A": &r.A, "X": &r.X, "Y": &r.Y, "S": &r.S, "M": &r.A}
	first, last := registers[name[1:2]], registers[name[2:]]
	noteOf := func(b int) int {
		b = byteOf(b)
		r.P = noted(r.P, map[int]bool{128: b >= 128, 2: b == 0})
		return b
	}
	switch namedLetters(name) {
	case "load":
		*last = noteOf(v)
	case "move":
		*last = noteOf(*first)
	case "count":
		*last = noteOf(*last + map[byte]int{'I': 1, 'D': 255}[name[0]])
	case "note":
		r.P = noted(r.P, map[int]bool{flagOf(strings.Index(flagLetters, name[2:])): name[0] == 'S'})
	case "compare":
		if name == "CMP" {
			last = &r.A
		}
		noteOf(*last - v)
		r.P = noted(r.P, map[int]bool{1: *last >= v})
	}
	switch name {
	case "TXS":
		r.S = r.X
	case "AND":
		r.A = noteOf(r.A & v)
	case "ORA":
		r.A = noteOf(r.A | v)
	case "EOR":
		r.A = noteOf((r.A | v) - (r.A & v))
	case "ADC":
		r.P, r.A = impl.Add(r.P, r.A, v)
	case "SBC":
		r.P, r.A = impl.Sub(r.P, r.A, v)
	case "BIT":
		r.P = noted(r.P, map[int]bool{128: v >= 128, 64: isNoted(v, 64), 2: r.A&v == 0})
	}
	return changedOf(r, name, v)
}

func changedOf(r impl.Regs, name string, v int) (impl.Regs, int) {
	comes, goes := v, isNoted(r.P, 1)
	switch name {
	case "ASL":
		comes, goes = v*2%256, v >= 128
	case "ROL":
		comes, goes = v*2%256+carried(r.P), v >= 128
	case "LSR":
		comes, goes = v/2, v%2 == 1
	case "ROR":
		comes, goes = v/2+128*carried(r.P), v%2 == 1
	case "INC":
		comes = (v + 1) % 256
	case "DEC":
		comes = (v + 255) % 256
	default:
		return r, v
	}
	r.P = noted(r.P, map[int]bool{128: comes >= 128, 2: comes == 0, 1: goes})
	return r, comes
}

func TestApplyOfSome(t *testing.T) {
	rows := []struct {
		before, name string
		v            int
		after        string
		comes        int
	}{
		{"", "LDA", 0x80, "A=80 P=N.U.....", 0x80},
		{"P=N.U....C", "LDX", 0, "X=00 P=..U...ZC", 0},
		{"P=..U...Z.", "LDY", 1, "Y=01 P=..U.....", 1},
		{"A=F0", "AND", 0x9F, "A=90 P=N.U.....", 0x9F},
		{"A=F0", "AND", 0x0F, "A=00 P=..U...Z.", 0x0F},
		{"A=F0", "ORA", 0x0F, "A=FF P=N.U.....", 0x0F},
		{"A=FF", "EOR", 0xFF, "A=00 P=..U...Z.", 0xFF},
		{"A=7F P=..U....C", "ADC", 0x00, "A=80 P=NVU.....", 0},
		{"A=99 P=..U.D...", "ADC", 0x01, "A=00 P=N.U.D..C", 1},
		{"A=05 P=..U....C", "SBC", 0x06, "A=FF P=N.U.....", 6},
		{"A=10 P=..U.D..C", "SBC", 0x01, "A=09 P=..U.D..C", 1},
		{"A=10", "CMP", 0x10, "P=..U...ZC", 0x10},
		{"X=05", "CPX", 0x06, "P=N.U.....", 0x06},
		{"Y=03", "CPY", 0x02, "P=..U....C", 0x02},
		{"A=01", "BIT", 0xC0, "P=NVU...Z.", 0xC0},
		{"P=..U....C", "ASL", 0x80, "P=..U...ZC", 0x00},
		{"P=..U....C", "LSR", 0x80, "P=..U.....", 0x40},
		{"P=..U....C", "ROL", 0x40, "P=N.U.....", 0x81},
		{"P=..U.....", "ROR", 0x01, "P=..U...ZC", 0x00},
		{"P=NVU....C", "INC", 0xFF, "P=.VU...ZC", 0x00},
		{"", "DEC", 0x00, "P=N.U.....", 0xFF},
		{"A=80", "TAX", 7, "X=80 P=N.U.....", 7},
		{"A=00", "TAY", 7, "Y=00 P=..U...Z.", 7},
		{"X=81", "TXA", 7, "A=81 P=N.U.....", 7},
		{"Y=82", "TYA", 7, "A=82 P=N.U.....", 7},
		{"S=00", "TSX", 7, "X=00 P=..U...Z.", 7},
		{"X=00", "TXS", 7, "S=00", 7},
		{"X=FF", "INX", 7, "X=00 P=..U...Z.", 7},
		{"Y=7F", "INY", 7, "Y=80 P=N.U.....", 7},
		{"X=00", "DEX", 7, "X=FF P=N.U.....", 7},
		{"Y=01", "DEY", 7, "Y=00 P=..U...Z.", 7},
		{"P=NVU.DIZC", "CLC", 7, "P=NVU.DIZ.", 7}, {"", "SEC", 7, "P=..U....C", 7},
		{"P=NVU.DIZC", "CLI", 7, "P=NVU.D.ZC", 7}, {"", "SEI", 7, "P=..U..I..", 7},
		{"P=NVU.DIZC", "CLD", 7, "P=NVU..IZC", 7}, {"", "SED", 7, "P=..U.D...", 7},
		{"P=NVU.DIZC", "CLV", 7, "P=N.U.DIZC", 7},
		{"P=NVU.DIZC", "NOP", 7, "", 7}, {"", "STA", 7, "", 7}, {"", "BRK", 7, "", 7}, {"", "PLA", 7, "", 7},
	}
	for _, row := range rows {
		r := regsOf(t, baseRegs(), row.before)
		got, comes := impl.Apply(r, row.name, row.v)
		if want := regsOf(t, r, row.after); got != want || comes != row.comes {
			t.Errorf("%s of %+v with %d = %+v, %d, want %+v, %d", row.name, r, row.v, got, comes, want, row.comes)
		}
	}
}

// someRightRegs have registers that differ from each other, and notes of all kinds.
func someRightRegs() []impl.Regs {
	var all []impl.Regs
	for i, p := range []int{0x20, 0x21, 0x28, 0x29, 0xEF, 0xEE, 0xA6, 0x61} {
		all = append(all, impl.Regs{A: 31 * i, X: 255 - 36*i, Y: 127 + i, S: 3 + 50*(i%6), P: p, Pc: 0x1234 * i % 65536})
	}
	return append(all, impl.Regs{P: 0x20}, impl.Regs{A: 255, X: 255, Y: 255, S: 255, P: 0xEF, Pc: 65535}, impl.Regs{A: 128, Y: 1, P: 0x24})
}

func TestApplyOfAllNames(t *testing.T) {
	for _, name := range allNames(t) {
		for _, r := range someRightRegs() {
			for v := range 256 {
				want, wantComes := appliedOf(r, name, v)
				got, comes := impl.Apply(r, name, v)
				if got != want || comes != wantComes || !impl.RegsOk(got) {
					t.Fatalf("%s of %+v with %d = %+v, %d, want %+v, %d", name, r, v, got, comes, want, wantComes)
				}
			}
		}
	}
}

// TestApplySetsItsNotesAlone: of each name, all notes that it ever changes, with all notes ahead.
func TestApplySetsItsNotesAlone(t *testing.T) {
	changes := map[string]string{
		"ADC": "NVZC", "SBC": "NVZC", "BIT": "NVZ", "CMP": "NZC", "CPX": "NZC", "CPY": "NZC",
		"ASL": "NZC", "LSR": "NZC", "ROL": "NZC", "ROR": "NZC",
		"CLC": "C", "SEC": "C", "CLI": "I", "SEI": "I", "CLD": "D", "SED": "D", "CLV": "V",
	}
	for _, name := range strings.Fields("LDA LDX LDY AND ORA EOR INC DEC TAX TAY TXA TYA TSX INX INY DEX DEY") {
		changes[name] = "NZ"
	}
	for _, name := range allNames(t) {
		changed := 0
		for p := range 256 {
			for _, r := range someRightRegs() {
				r.P = impl.Pulled(p)
				for _, v := range someBytes() {
					got, _ := impl.Apply(r, name, v)
					changed |= got.P ^ r.P
				}
			}
		}
		if got := strings.ReplaceAll(impl.FlagText(changed), ".", ""); got != changes[name] {
			t.Errorf("%s changes the notes %q, want %q", name, got, changes[name])
		}
	}
}

// notApplied are all names of which Apply tells nothing.
func notApplied() []string {
	names := strings.Fields("BCC BCS BEQ BMI BNE BPL BVC BVS BRK JMP JSR NOP PHA PHP PLA PLP RTI RTS STA STX STY JAM")
	names = append(names, strings.Fields("nop lda Adc TAS TAXX SEV CLZ SEZ SEN CLB CPA CMX INA DEA LDS TXY TYX imm acc")...)
	return append(names, oddNames()...)
}

func TestApplyOfOthers(t *testing.T) {
	regs := append(someRightRegs(), impl.Regs{}, impl.Regs{A: -1, X: 256, Y: math.MaxInt, S: math.MinInt, P: 999, Pc: -5})
	for _, name := range notApplied() {
		for _, r := range regs {
			for _, v := range append(noBytes(), 0, 1, 128, 255) {
				if got, comes := impl.Apply(r, name, v); got != r || comes != byteOf(v) {
					t.Fatalf("%q of %+v with %d = %+v, %d", name, r, v, got, comes)
				}
			}
		}
	}
}

func TestApplyTakesLowestBits(t *testing.T) {
	for _, name := range allNames(t) {
		for _, r := range someRightRegs() {
			for _, v := range noBytes() {
				got, comes := impl.Apply(r, name, v)
				if want, wantComes := impl.Apply(r, name, byteOf(v)); got != want || comes != wantComes {
					t.Errorf("%s with %d = %+v, %d, want %+v, %d", name, v, got, comes, want, wantComes)
				}
			}
		}
	}
}

// branchesOf are, by name, the flag that each branch asks for, and whether it is to be set.
func branchesOf() map[string]struct {
	flag int
	set  bool
} {
	return map[string]struct {
		flag int
		set  bool
	}{
		"BPL": {128, false}, "BMI": {128, true}, "BVC": {64, false}, "BVS": {64, true},
		"BCC": {1, false}, "BCS": {1, true}, "BNE": {2, false}, "BEQ": {2, true},
	}
}

func TestTakesOfBranches(t *testing.T) {
	for name, asked := range branchesOf() {
		for p := range 256 {
			if got := impl.Takes(name, p); got != (isNoted(p, asked.flag) == asked.set) {
				t.Errorf("Takes(%q, %d) is %t", name, p, got)
			}
		}
		for _, p := range noBytes() {
			if got := impl.Takes(name, p); got != (isNoted(byteOf(p), asked.flag) == asked.set) {
				t.Errorf("Takes(%q, %d) is %t", name, p, got)
			}
		}
	}
}

func TestTakesOfOthers(t *testing.T) {
	names := append(allNames(t), oddNames()...)
	names = append(names, "bpl", "bcs", "BRA", "BRK", "BIT", "BVS ", "BDC", "BDS", "BIC", "BIS", "B", "BCCC")
	for _, name := range names {
		if _, is := branchesOf()[name]; is {
			continue
		}
		for p := range 256 {
			if impl.Takes(name, p) || impl.Takes(name, p-256) {
				t.Errorf("Takes(%q, %d)", name, p)
			}
		}
	}
}

// someFlat is right, with a whole Mem that has other bytes everywhere.
func someFlat() impl.Flat {
	return impl.Flat{Regs: impl.Regs{A: 1, X: 2, Y: 3, S: 0xF0, P: impl.FlU, Pc: 0x0210}, Mem: impl.Mem{Ram: ramText(1024), Rom: romText(512)}, Open: 7}
}

// wrongFlats are each wrong in one part alone.
func wrongFlats() []impl.Flat {
	var wrong []impl.Flat
	for _, open := range append(noBytes(), -1, 256, 257) {
		if open < 0 || open > 255 {
			f := someFlat()
			f.Open = open
			wrong = append(wrong, f)
		}
	}
	for _, m := range wrongMems() {
		f := someFlat()
		f.Mem = m
		wrong = append(wrong, f)
	}
	for _, part := range []string{"A", "X", "Y", "S", "P", "Pc"} {
		for _, v := range []int{-1, 65536, math.MaxInt, math.MinInt} {
			wrong = append(wrong, impl.Flat{Regs: regsWith(part, v)})
		}
	}
	for _, r := range []impl.Regs{{}, regsWith("A", 256), regsWith("X", 256), regsWith("Y", 256), regsWith("S", 256), regsWith("P", 4), regsWith("P", 0x30)} {
		wrong = append(wrong, impl.Flat{Regs: r, Mem: someFlat().Mem})
	}
	return wrong
}

func TestFlatOkOfParts(t *testing.T) {
	for _, m := range rightMems() {
		for _, open := range []int{0, 1, 128, 255} {
			for _, r := range someRightRegs() {
				if !impl.FlatOk(impl.Flat{Regs: r, Mem: m, Open: open}) || !impl.FlatOk(impl.Flat{Regs: r, Mem: m, Open: open, Jam: true}) {
					t.Errorf("FlatOk of %+v with open %d is false", r, open)
				}
			}
		}
	}
	for _, f := range wrongFlats() {
		for _, jam := range []bool{false, true} {
			f.Jam = jam
			if impl.FlatOk(f) {
				t.Errorf("FlatOk of %+v, open %d, sizes %d and %d", f.Regs, f.Open, len(f.Mem.Ram), len(f.Mem.Rom))
			}
		}
	}
}

func TestDoOfWrongFlats(t *testing.T) {
	for _, f := range wrongFlats() {
		for _, jam := range []bool{false, true} {
			f.Jam = jam
			if got, bus := impl.Do(f); got != f || len(bus) != 0 {
				t.Errorf("Do of %+v, open %d: %d on the bus", f.Regs, f.Open, len(bus))
			}
			for _, n := range []int{-1, 0, 1, 200, 201} {
				if got, bus := impl.DoMany(f, n); got != f || len(bus) != 0 {
					t.Errorf("DoMany of %+v, open %d: %d on the bus", f.Regs, f.Open, len(bus))
				}
			}
		}
	}
}

// model does an instruction by small steps; it shares with the program what earlier chapters promise alone.
type model struct {
	impl.Flat
	name        string
	kind        int
	lo, hi, val int
	cross       bool
	taken       bool
	bus         []impl.Bus
}

func (m *model) get(addr int) int {
	m.Open = told(m.Mem, addr, m.Open)
	m.bus = append(m.bus, impl.Bus{Addr: addr, Data: m.Open})
	return m.Open
}

func (m *model) put(addr, v int) {
	one := impl.Bus{Addr: addr, Data: v, Write: true}
	m.Open, m.Mem, m.bus = v, written(m.Mem, []impl.Bus{one}), append(m.bus, one)
}

func (m *model) fed() int {
	v := m.get(m.Regs.Pc)
	m.Regs.Pc = (m.Regs.Pc + 1) % 65536
	return v
}

func (m *model) push(v int) {
	m.put(256+m.Regs.S, v)
	m.Regs.S = (m.Regs.S + 255) % 256
}

func (m *model) pull() int {
	m.Regs.S = (m.Regs.S + 1) % 256
	return m.get(256 + m.Regs.S)
}

// goesTo sets Cross, by the place that is gone on from.
func (m *model) goesTo(to, from int) int {
	m.cross = to/256 != from/256
	if m.cross || m.kind == impl.KiWrite || m.kind == impl.KiModify {
		m.get(from/256*256 + to%256)
	}
	return to
}

// stepsOf are the steps of an instruction behind its own byte.
func stepsOf(name, mode string) string {
	owns := map[string]string{
		"BRK": "fed PH PL notes I vector", "JSR": "lo stack PH PL high", "RTS": "here stack lo< hi< jump fed",
		"RTI": "here stack P< lo< hi< jump", "PHA": "here A>", "PHP": "here notes", "PLA": "here stack A<", "PLP": "here stack P<",
		"JAM": "jam",
	}
	if owns[name] != "" {
		return owns[name]
	}
	modes := map[string]string{
		"imp": "here imp", "acc": "here acc", "imm": "lo imm", "rel": "lo branch", "ind": "lo hi pointer jump",
		"zpg": "lo", "zpx": "lo lo+x", "zpy": "lo lo+y", "abs": "lo hi", "abx": "lo hi to+x", "aby": "lo hi to+y",
		"inx": "lo lo+x pointer", "iny": "lo pointer to+y",
	}
	switch {
	case name == "JMP" && mode == "abs":
		return "lo hi jump"
	case mode == "imp" || mode == "acc" || mode == "imm" || mode == "rel" || mode == "ind":
		return modes[mode]
	}
	ends := map[int]string{impl.KiRead: " read", impl.KiWrite: " write", impl.KiModify: " modify"}
	return modes[mode] + ends[kindOfListed(name, mode)]
}

func (m *model) step(word string) {
	r := &m.Regs
	switch word {
	case "here":
		m.get(r.Pc)
	case "fed":
		m.fed()
	case "stack":
		m.get(256 + r.S)
	case "lo":
		m.lo = m.fed()
	case "hi":
		m.hi = m.fed()
	case "lo<":
		m.lo = m.pull()
	case "hi<":
		m.hi = m.pull()
	case "P<":
		r.P = impl.Pulled(m.pull())
	case "A<":
		v := m.pull()
		*r, _ = appliedOf(*r, "LDA", v)
	case "A>":
		m.push(r.A)
	case "notes":
		m.push(noted(r.P, map[int]bool{16: true, 32: true}))
	case "PH":
		m.push(r.Pc / 256)
	case "PL":
		m.push(r.Pc % 256)
	case "I":
		r.P = noted(r.P, map[int]bool{4: true})
	case "jump":
		r.Pc = m.lo + 256*m.hi
	case "high":
		r.Pc = m.lo + 256*m.get(r.Pc)
	case "vector":
		r.Pc = m.get(65534)
		r.Pc += 256 * m.get(65535)
	case "jam":
		m.Jam = true
	default:
		m.stepOfMode(word)
	}
}

func (m *model) stepOfMode(word string) {
	r := &m.Regs
	switch word {
	case "lo+x", "lo+y":
		m.get(m.lo)
		m.lo = (m.lo + map[string]int{"lo+x": r.X, "lo+y": r.Y}[word]) % 256
	case "pointer":
		at := m.lo + 256*m.hi
		m.lo = m.get(at)
		m.hi = m.get(at/256*256 + (at+1)%256)
	case "to+x", "to+y":
		from := m.lo + 256*m.hi
		to := m.goesTo((from+map[string]int{"to+x": r.X, "to+y": r.Y}[word])%65536, from)
		m.lo, m.hi = to%256, to/256
	case "read":
		m.val = m.get(m.lo + 256*m.hi)
		*r, _ = appliedOf(*r, m.name, m.val)
	case "imm":
		*r, _ = appliedOf(*r, m.name, m.lo)
	case "imp":
		*r, _ = appliedOf(*r, m.name, r.A)
	case "acc":
		*r, m.val = appliedOf(*r, m.name, r.A)
		r.A = m.val
	case "write":
		m.put(m.lo+256*m.hi, map[string]int{"STA": r.A, "STX": r.X, "STY": r.Y}[m.name])
	case "modify":
		at := m.lo + 256*m.hi
		m.val = m.get(at)
		m.put(at, m.val)
		*r, m.val = appliedOf(*r, m.name, m.val)
		m.put(at, m.val)
	case "branch":
		asked := branchesOf()[m.name]
		if m.taken = isNoted(r.P, asked.flag) == asked.set; m.taken {
			m.get(r.Pc)
			r.Pc = m.goesTo(addressOf(r.Pc+signed(m.lo)), r.Pc)
		}
	default:
		panic("the test has a step " + word)
	}
}

// modelOf is a right Flat behind an instruction, with all that was done.
func modelOf(f impl.Flat, list map[int]listed) *model {
	m := &model{Flat: f}
	if f.Jam {
		m.get(65535)
		return m
	}
	op, is := list[m.fed()]
	if !is {
		op = listed{name: "JAM", mode: "imp"}
	}
	m.name, m.kind = op.name, kindOfListed(op.name, op.mode)
	for word := range strings.FieldsSeq(stepsOf(op.name, op.mode)) {
		m.step(word)
	}
	return m
}

func listByCode(t *testing.T) map[int]listed {
	t.Helper()
	list := map[int]listed{}
	for _, op := range allListed(t) {
		list[op.code] = op
	}
	return list
}

// numbersFrom tells numbers without an order that is seen, the same ones each time.
func numbersFrom(seed int) func(below int) int {
	state := uint64(seed)*2654435769 + 12345
	return func(below int) int {
		state = state*6364136223846793005 + 1442695040888963407
		return int(state>>33) % below
	}
}

func mixedText(size int, next func(int) int) string {
	text := make([]byte, size)
	for i := range text {
		text[i] = byte(next(256))
	}
	return string(text)
}

// flatAt is a right Flat of which the byte at Pc is code, in Ram, in Rom, or open.
func flatAt(code int, next func(int) int) impl.Flat {
	pcs := []int{0, 0xFE, 0xFF, 0x1F0, 0x1FF, 0x200, 0x2FD, 0x2FE, 0x2FF, 0x3FF, 0x1FFF, 0x2000, 0x3000, 0x5000, 0xEFFE, 0xF000, 0xFFF0, 0xFFFD, 0xFFFE, 0xFFFF}
	edges := []int{0, 1, 2, 127, 128, 254, 255}
	edgeOr := func() int {
		if next(2) == 0 {
			return edges[next(len(edges))]
		}
		return next(256)
	}
	r := impl.Regs{A: edgeOr(), X: edgeOr(), Y: edgeOr(), S: edgeOr(), P: impl.Pulled(next(256)), Pc: pcs[next(len(pcs))]}
	if next(3) == 0 {
		r.Pc = next(65536)
	}
	ram := mixedText([]int{1024, 1024, 1024, 300, 0}[next(5)], next)
	f := impl.Flat{Regs: r, Mem: impl.Mem{Ram: ram, Rom: mixedText(512, next)}, Open: next(256)}
	switch ownerOf(r.Pc) {
	case impl.WhRam:
		f.Mem.Ram = pokedRam(f.Mem.Ram, r.Pc%1024, code)
	case impl.WhRom:
		f.Mem.Rom = f.Mem.Rom[:r.Pc%512] + string([]byte{byte(code)}) + f.Mem.Rom[r.Pc%512+1:]
	default:
		f.Open = code
	}
	return f
}

// TestDoOfAllBytes: each byte from many Flats, the whole list and all of the Flat; and it takes the clocks of the table.
func TestDoOfAllBytes(t *testing.T) {
	list := listByCode(t)
	for code := range 256 {
		next := numbersFrom(code)
		for range 150 {
			f := flatAt(code, next)
			want := modelOf(f, list)
			got, bus := impl.Do(f)
			if !slices.Equal(bus, want.bus) {
				t.Fatalf("byte %02X of %+v:\n did %s\nwant %s", code, f.Regs, busText(bus), busText(want.bus))
			}
			if got != want.Flat {
				checkFlat(t, "byte "+impl.HexText(code, 2), got, want.Flat)
			}
			if !impl.FlatOk(got) || got.Open != lastData(bus, -1) {
				t.Fatalf("byte %02X of %+v: not right behind it, %+v", code, f.Regs, got.Regs)
			}
			if clocks := impl.Clocks(code, want.cross, want.taken); len(bus) != clocks && !got.Jam {
				t.Fatalf("byte %02X did %d, takes %d clocks", code, len(bus), clocks)
			}
		}
	}
}

func TestDoOfJamBytes(t *testing.T) {
	list := listByCode(t)
	jams := 0
	for code := range 256 {
		if _, is := list[code]; is {
			continue
		}
		jams++
		for _, pc := range []int{0, 0x200, 0x1FFF, 0x2000, 0x4000, 0xF000, 0xFFFF} {
			f := flatAt(code, numbersFrom(code))
			f.Regs.Pc, f.Open = pc, code
			f.Mem = impl.Mem{Ram: strings.Repeat(string([]byte{byte(code)}), 1024), Rom: strings.Repeat(string([]byte{byte(code)}), 512)}
			want := f
			want.Regs.Pc, want.Jam = (pc+1)%65536, true
			got, bus := impl.Do(f)
			checkFlat(t, "a JAM", got, want)
			if len(bus) != 1 || bus[0] != (impl.Bus{Addr: pc, Data: code}) {
				t.Errorf("JAM of byte %02X at %04X did %s", code, pc, busText(bus))
			}
		}
	}
	if jams != 105 {
		t.Errorf("%d bytes are a JAM", jams)
	}
}

// TestDoInJam: one read at $FFFF, which is open then, and nothing else, whatever stands at Pc.
func TestDoInJam(t *testing.T) {
	for _, code := range []int{0, 2, 0xA9, 0xE6, 0xEA, 0xFF} {
		for _, rom := range []string{"", "\x55", romText(511), romText(512), strings.Repeat("\x00", 511) + "\xc4"} {
			f := flatAt(code, numbersFrom(code+1))
			f.Mem.Rom, f.Jam = rom, true
			want := f
			want.Open = standsAt(f.Mem, 65535)
			for range 3 {
				got, bus := impl.Do(f)
				checkFlat(t, "in a jam", got, want)
				if len(bus) != 1 || bus[0] != (impl.Bus{Addr: 65535, Data: want.Open}) {
					t.Errorf("in a jam it did %s", busText(bus))
				}
				f = got
			}
		}
	}
}

// clocksOf are the clocks of all bytes with no page crossed and no branch taken, sixteen bytes a line.
const clocksOf = `
7622235232222462 2522246224222472 6622335242224462 2522246224222472
6622235232223462 2522246224222472 6622235242225462 2522246224222472
2622333222224442 2622444225222522 2622333222224442 2522444224224442
2622335222224462 2522246224222472 2622335222224462 2522246224222472
`

func TestClocksOfAllBytes(t *testing.T) {
	table := strings.Join(strings.Fields(clocksOf), "")
	if len(table) != 256 {
		t.Fatalf("the table has %d bytes", len(table))
	}
	list := listByCode(t)
	for code := range 256 {
		op := list[code]
		indexed := op.mode == "abx" || op.mode == "aby" || op.mode == "iny"
		for bits := range 4 {
			cross, taken := bits&1 != 0, bits&2 != 0
			want := int(table[code] - '0')
			switch {
			case op.mode == "rel" && taken && cross:
				want = 4
			case op.mode == "rel" && taken:
				want = 3
			case indexed && cross && kindOfListed(op.name, op.mode) == impl.KiRead:
				want++
			}
			for _, n := range []int{code, code + 256, code - 256, code + 1<<40, code + math.MinInt, math.MaxInt - 255 + code} {
				if got := impl.Clocks(n, cross, taken); got != want {
					t.Errorf("Clocks(%d, %t, %t) of %s %s = %d, want %d", n, cross, taken, op.name, op.mode, got, want)
				}
			}
		}
	}
	for _, n := range oddNumbers() {
		if impl.Clocks(n, true, true) != impl.Clocks(byteOf(n), true, true) {
			t.Errorf("Clocks(%d) = %d", n, impl.Clocks(n, true, true))
		}
	}
}

// doneTimes is Do so many times.
func doneTimes(f impl.Flat, n int) (impl.Flat, []impl.Bus) {
	var all []impl.Bus
	for range n {
		var bus []impl.Bus
		f, bus = impl.Do(f)
		all = append(all, bus...)
	}
	return f, all
}

func TestDoManyIsDo(t *testing.T) {
	counted := memOf(t, "0200 E8C8E610EE20034C0002")
	flats := []impl.Flat{{Regs: baseRegs(), Mem: counted}, someFlat(), {Regs: baseRegs(), Mem: memOf(t, "0200 EAEA02")}, flatAt(0xEA, numbersFrom(3))}
	times := map[int]int{-1: 0, -200: 0, math.MinInt: 0, 0: 0, 1: 1, 2: 2, 3: 3, 10: 10, 199: 199, 200: 200, 201: 200, 202: 200, 400: 200, 100000: 200, math.MaxInt: 200}
	for _, f := range flats {
		for n, many := range times {
			want, wantBus := doneTimes(f, many)
			got, bus := impl.DoMany(f, n)
			checkFlat(t, "DoMany of "+impl.DecText(n), got, want)
			if !slices.Equal(bus, wantBus) {
				t.Errorf("DoMany(%d) did %d, want %d", n, len(bus), len(wantBus))
			}
		}
	}
}

// TestDoManyOfProgram is written out: a loop of three rounds that adds, and then a JAM.
func TestDoManyOfProgram(t *testing.T) {
	// LDX #3, LDA #0, CLC, ADC $10, DEX, BNE back to CLC, STA $11, JAM
	m := memOf(t, "0200 A203A900186510CAD0FA851102", "0010 07")
	got, bus := impl.DoMany(impl.Flat{Regs: baseRegs(), Mem: m}, 15)
	want := regsOf(t, baseRegs(), "PC=020C A=15 X=00 P=..U...Z.")
	if got.Regs != want || got.Jam || impl.Peek(got.Mem, 0x11, 0) != 21 || len(bus) != 4+3*(2+3+2)+3+3+2+3 {
		t.Errorf("%+v, jam %t, %d on the bus", got.Regs, got.Jam, len(bus))
	}
	got, bus = impl.DoMany(impl.Flat{Regs: baseRegs(), Mem: m}, 18)
	if busText(bus[len(bus)-4:]) != "0011w15 020Cr02 FFFFr00 FFFFr00" || !got.Jam || got.Regs.Pc != 0x20D {
		t.Errorf("%+v, jam %t, at last %s", got.Regs, got.Jam, busText(bus[len(bus)-4:]))
	}
}

// TestRightFlatStaysRight: whatever bytes stand there.
func TestRightFlatStaysRight(t *testing.T) {
	for seed := range 60 {
		next := numbersFrom(1000 + seed)
		f := flatAt(next(256), next)
		for range 100 {
			got, bus := impl.Do(f)
			if !impl.FlatOk(got) || len(bus) < 1 || len(bus) > 7 || got.Open != lastData(bus, -1) || got.Mem != written(f.Mem, bus) {
				t.Fatalf("seed %d: %+v, open %d, did %s", seed, got.Regs, got.Open, busText(bus))
			}
			for _, b := range bus {
				if b.Addr < 0 || b.Addr > 65535 || b.Data < 0 || b.Data > 255 {
					t.Fatalf("seed %d: on the bus %+v", seed, b)
				}
			}
			f = got
			if f.Jam {
				f.Jam, f.Regs.Pc = false, next(65536)
			}
		}
	}
}

// pushedAndPulled does the bytes of code at $0200, one instruction behind the other, from r on.
func pushedAndPulled(t *testing.T, r impl.Regs, n int, texts ...string) impl.Regs {
	t.Helper()
	f, _ := impl.DoMany(impl.Flat{Regs: r, Mem: memOf(t, texts...)}, n)
	return f.Regs
}

func TestPushedIsPulled(t *testing.T) {
	for s := range 256 {
		for _, v := range someBytes() {
			r := baseRegs()
			r.A, r.S, r.P = v, s, impl.Pulled(v)
			// PHA, LDA #$5A, PLA; PHP, PLP behind other notes; JSR to an RTS; BRK to an RTI.
			want := r
			want.Pc, want.P = 0x204, noted(r.P, map[int]bool{128: v >= 128, 2: v == 0})
			if got := pushedAndPulled(t, r, 3, "0200 48A95A68"); got != want {
				t.Fatalf("A: %+v, want %+v", got, want)
			}
			want.P = r.P
			if got := pushedAndPulled(t, r, 5, "0200 08A980F83828"); got.P != want.P || got.S != s {
				t.Fatalf("notes: %+v, want %+v", got, want)
			}
			want.Pc = 0x203
			if got := pushedAndPulled(t, r, 2, "0200 204003", "0340 60"); got != want {
				t.Fatalf("a place: %+v, want %+v", got, want)
			}
			want.Pc = 0x202
			if got := pushedAndPulled(t, r, 2, "0200 00FF", "FFFE 4003", "0340 40"); got != want {
				t.Fatalf("notes and a place: %+v, want %+v", got, want)
			}
		}
	}
}

// TestWholeListsAreNew: what is done to an answer shows in no other one.
func TestWholeListsAreNew(t *testing.T) {
	f := impl.Flat{Regs: baseRegs(), Mem: memOf(t, "0200 E610E6104C0002")}
	kept := f
	for _, do := range []func() (impl.Flat, []impl.Bus){
		func() (impl.Flat, []impl.Bus) { return impl.Do(f) },
		func() (impl.Flat, []impl.Bus) { return impl.DoMany(f, 3) },
	} {
		_, first := do()
		text := busText(first)
		for i := range first {
			first[i] = impl.Bus{Addr: 1, Data: 2, Write: true}
		}
		_ = append(first, impl.Bus{Addr: 3})
		if _, again := do(); busText(again) != text {
			t.Errorf("again it did %s, want %s", busText(again), text)
		}
	}
	checkFlat(t, "the argument", f, kept)
}

// TestWholeAnswersAlways: a panic fails the test; the same question has the same answer.
func TestWholeAnswersAlways(t *testing.T) {
	for _, part := range []string{"A", "X", "Y", "S", "P", "Pc"} {
		for _, v := range oddNumbers() {
			r := regsWith(part, v)
			for _, name := range append(allNames(t), "JAM", "", "?") {
				for _, x := range oddNumbers() {
					got, comes := impl.Apply(r, name, x)
					again, comesAgain := impl.Apply(r, name, x)
					if got != again || comes != comesAgain || comes < 0 || comes > 255 || impl.RegsOk(r) && !impl.RegsOk(got) {
						t.Errorf("%q of %+v with %d = %+v, %d", name, r, x, got, comes)
					}
				}
			}
			for _, open := range []int{v, 0} {
				f := impl.Flat{Regs: r, Open: open}
				right := impl.FlatOk(f)
				got, bus := impl.Do(f)
				again, busAgain := impl.Do(f)
				if got != again || !slices.Equal(bus, busAgain) || impl.FlatOk(got) != right || right != (len(bus) > 0) {
					t.Errorf("Do of %+v, open %d = %+v, did %s", r, open, got.Regs, busText(bus))
				}
			}
		}
	}
}
