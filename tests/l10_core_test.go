package tests

import (
	"math"
	"slices"
	"strconv"
	"strings"
	"testing"

	"loop.example/g00760/impl"
)

// baseCore has parts that differ from what the rows below bring, so that what stays is seen.
func baseCore() impl.Core {
	return impl.Core{Regs: baseRegs(), Code: 0xEE, Lo: 0xA1, Hi: 0xB2, Val: 0xC3}
}

// coreNumbers are the parts of a Core that are numbers, but Regs.
func coreNumbers(c *impl.Core) map[string]*int {
	return map[string]*int{"Seq": &c.Seq, "Code": &c.Code, "T": &c.T, "Lo": &c.Lo, "Hi": &c.Hi, "Val": &c.Val, "Next": &c.Next}
}

func coreWith(c impl.Core, part string, v int) impl.Core {
	*coreNumbers(&c)[part] = v
	return c
}

// coreOf is c, but for what a text like "PC=0202 Lo=20 T=19 Cross=1" tells: T by tens, bytes by sixteens.
func coreOf(t *testing.T, c impl.Core, text string) impl.Core {
	t.Helper()
	for word := range strings.FieldsSeq(text) {
		part, value, _ := strings.Cut(word, "=")
		switch part {
		case "T":
			c.T = impl.ReadDec(value)
		case "Cross":
			c.Cross = value == "1"
		case "Jam":
			c.Jam = value == "1"
		case "Seq", "Code", "Lo", "Hi", "Val", "Next":
			c = coreWith(c, part, impl.ReadHex(value))
		default:
			c.Regs = regsOf(t, c.Regs, word)
		}
	}
	return c
}

func checkCore(t *testing.T, what string, got, want impl.Core) {
	t.Helper()
	if got != want {
		t.Errorf("%s:\n got %+v\nwant %+v", what, got, want)
	}
}

// clocksOfCore are clocks that are told by hand, with commas between. Of each, the first word is what stands on the
// bus (its byte is fed where it is a read); the others are what changes by it, but that T is one more. ^ is ahead of
// the Wires of that clock and of the ones behind, and ! stands where they are without Edge behind it.
type clocksOfCore struct {
	what   string
	before string
	clocks string
}

func (row clocksOfCore) check(t *testing.T, wires impl.Wires) impl.Core {
	t.Helper()
	c := coreOf(t, baseCore(), row.before)
	for i, text := range strings.Split(row.clocks, ",") {
		words := strings.Fields(text)
		want, wantWires := c, wires
		want.T++
		for _, word := range words[1:] {
			switch {
			case word == "!":
				wantWires.Edge = false
			case word[0] == '^':
				wires = wiresOf(word[1:])
				wantWires = wires
			default:
				want = coreOf(t, want, word)
			}
		}
		data := impl.ReadHex(words[0][5:])
		bus := impl.Want(c, wires)
		wantBus := impl.Bus{Addr: impl.ReadHex(words[0][:4]), Write: words[0][4] == 'w'}
		fed := data
		if wantBus.Write {
			// What is read where it writes doesn't count.
			wantBus.Data, fed = data, 0x5A
		}
		if bus != wantBus {
			t.Errorf("%s, clock %d: wants %+v, want %+v", row.what, i, bus, wantBus)
		}
		got, gotWires := impl.Fed(c, fed, wires)
		checkCore(t, row.what+", clock "+strconv.Itoa(i), got, want)
		checkWires(t, row.what+", clock "+strconv.Itoa(i), gotWires, wantWires)
		c, wires = got, gotWires
	}
	return c
}

func checkClocks(t *testing.T, rows []clocksOfCore) {
	t.Helper()
	for _, row := range rows {
		if c := row.check(t, impl.Wires{}); !impl.Fetches(c) && !c.Jam {
			t.Errorf("%s: isn't done, %+v", row.what, c)
		}
	}
}

func TestCoreReads(t *testing.T) {
	checkClocks(t, []clocksOfCore{
		{"imm", "", "0200rA9 Code=A9 PC=0201, 0201r80 PC=0202 A=80 P=N.U..... T=0"},
		{"zpg", "", "0200rA5 Code=A5 PC=0201, 0201r10 PC=0202 Lo=10 Hi=00 T=20, 0010r20 A=20 T=0"},
		{"zpx", "", "0200rB5 Code=B5 PC=0201, 0201r10 PC=0202 Lo=10, 0010r77 Lo=15 Hi=00 T=20, 0015r33 A=33 T=0"},
		{"zpx to the end of page 0", "X=0F", "0200rB5 Code=B5 PC=0201, 0201rF0 PC=0202 Lo=F0, 00F0r77 Lo=FF Hi=00 T=20, 00FFr33 A=33 T=0"},
		{"zpx beyond page 0", "X=10 Cross=1", "0200rB5 Code=B5 PC=0201, 0201rF0 PC=0202 Lo=F0, 00F0r77 Lo=00 Hi=00 T=20, 0000r33 A=33 T=0"},
		{"zpy", "", "0200rB6 Code=B6 PC=0201, 0201r10 PC=0202 Lo=10, 0010r77 Lo=13 Hi=00 T=20, 0013r33 X=33 T=0"},
		{"zpy beyond page 0", "Y=FF", "0200rB6 Code=B6 PC=0201, 0201rFF PC=0202 Lo=FF, 00FFr77 Lo=FE Hi=00 T=20, 00FEr00 X=00 P=..U...Z. T=0"},
		{"abs", "Cross=1", "0200rAD Code=AD PC=0201, 0201r20 PC=0202 Lo=20, 0202r03 PC=0203 Hi=03 T=20, 0320r7F A=7F T=0"},
		{"abx", "Cross=1", "0200rBD Code=BD PC=0201, 0201r1B PC=0202 Lo=1B, 0202r03 PC=0203 Hi=03 Lo=20 Cross=0 T=20, 0320r7F A=7F T=0"},
		{"abx to the end of a page", "X=0F", "0200rBD Code=BD PC=0201, 0201rF0 PC=0202 Lo=F0, 0202r03 PC=0203 Hi=03 Lo=FF T=20, 03FFr7F A=7F T=0"},
		{"abx to the next page", "X=10", "0200rBD Code=BD PC=0201, 0201rF0 PC=0202 Lo=F0, 0202r02 PC=0203 Hi=02 Lo=00 Cross=1 T=19, 0200r77 Hi=03 T=20, 0300r7F A=7F T=0"},
		{"abx beyond the last page", "X=FF", "0200rBD Code=BD PC=0201, 0201rFF PC=0202 Lo=FF, 0202rFF PC=0203 Hi=FF Lo=FE Cross=1 T=19, FFFEr77 Hi=00 T=20, 00FEr7F A=7F T=0"},
		{"aby", "", "0200rB9 Code=B9 PC=0201, 0201r1D PC=0202 Lo=1D, 0202r03 PC=0203 Hi=03 Lo=20 T=20, 0320r7F A=7F T=0"},
		{"aby to the next page", "Y=01", "0200rBE Code=BE PC=0201, 0201rFF PC=0202 Lo=FF, 0202r02 PC=0203 Hi=02 Lo=00 Cross=1 T=19, 0200r77 Hi=03 T=20, 0300r7F X=7F T=0"},
		{"inx", "Cross=1", "0200rA1 Code=A1 PC=0201, 0201r0B PC=0202 Val=0B, 000Br77 Val=10, 0010r20 Lo=20, 0011r03 Hi=03 T=20, 0320r7F A=7F T=0"},
		{"inx beyond page 0", "X=20", "0200rA1 Code=A1 PC=0201, 0201rF0 PC=0202 Val=F0, 00F0r77 Val=10, 0010r20 Lo=20, 0011r03 Hi=03 T=20, 0320r7F A=7F T=0"},
		{"inx with high at 0", "", "0200rA1 Code=A1 PC=0201, 0201rFA PC=0202 Val=FA, 00FAr77 Val=FF, 00FFr20 Lo=20, 0000r03 Hi=03 T=20, 0320r7F A=7F T=0"},
		{"iny", "Cross=1", "0200rB1 Code=B1 PC=0201, 0201r10 PC=0202 Val=10, 0010r20 Lo=20, 0011r03 Hi=03 Lo=23 Cross=0 T=20, 0323r7F A=7F T=0"},
		{"iny to the end of a page", "Y=DF", "0200rB1 Code=B1 PC=0201, 0201r10 PC=0202 Val=10, 0010r20 Lo=20, 0011r03 Hi=03 Lo=FF T=20, 03FFr7F A=7F T=0"},
		{"iny to the next page", "Y=E0", "0200rB1 Code=B1 PC=0201, 0201r10 PC=0202 Val=10, 0010r20 Lo=20, 0011r03 Hi=03 Lo=00 Cross=1 T=19, 0300r77 Hi=04 T=20, 0400r7F A=7F T=0"},
		{"iny with high at 0", "", "0200rB1 Code=B1 PC=0201, 0201rFF PC=0202 Val=FF, 00FFr20 Lo=20, 0000r03 Hi=03 Lo=23 T=20, 0323r7F A=7F T=0"},
		{"iny beyond the last page", "Y=20", "0200rB1 Code=B1 PC=0201, 0201rFF PC=0202 Val=FF, 00FFrF0 Lo=F0, 0000rFF Hi=FF Lo=10 Cross=1 T=19, FF10r77 Hi=00 T=20, 0010r7F A=7F T=0"},
		{"CMP", "A=F0", "0200rC9 Code=C9 PC=0201, 0201r20 PC=0202 P=N.U....C T=0"},
		{"SBC by tens", "A=10 P=..U.D..C", "0200rE5 Code=E5 PC=0201, 0201r10 PC=0202 Lo=10 Hi=00 T=20, 0010r01 A=09 T=0"},
		{"BIT", "A=80", "0200r2C Code=2C PC=0201, 0201r20 PC=0202 Lo=20, 0202r03 PC=0203 Hi=03 T=20, 0320r7F P=.VU...Z. T=0"},
	})
}

func TestCoreWrites(t *testing.T) {
	checkClocks(t, []clocksOfCore{
		{"A, zpg", "", "0200r85 Code=85 PC=0201, 0201r10 PC=0202 Lo=10 Hi=00 T=20, 0010w10 T=0"},
		{"X, zpg", "", "0200r86 Code=86 PC=0201, 0201r10 PC=0202 Lo=10 Hi=00 T=20, 0010w05 T=0"},
		{"Y, zpg", "", "0200r84 Code=84 PC=0201, 0201r10 PC=0202 Lo=10 Hi=00 T=20, 0010w03 T=0"},
		{"A, zpx", "A=00", "0200r95 Code=95 PC=0201, 0201r10 PC=0202 Lo=10, 0010r77 Lo=15 Hi=00 T=20, 0015w00 T=0"},
		{"Y, zpx", "X=FF", "0200r94 Code=94 PC=0201, 0201r10 PC=0202 Lo=10, 0010r77 Lo=0F Hi=00 T=20, 000Fw03 T=0"},
		{"X, zpy", "Y=F0", "0200r96 Code=96 PC=0201, 0201r10 PC=0202 Lo=10, 0010r77 Lo=00 Hi=00 T=20, 0000w05 T=0"},
		{"A, abs", "", "0200r8D Code=8D PC=0201, 0201r20 PC=0202 Lo=20, 0202r03 PC=0203 Hi=03 T=20, 0320w10 T=0"},
		{"X, abs", "", "0200r8E Code=8E PC=0201, 0201r20 PC=0202 Lo=20, 0202rFF PC=0203 Hi=FF T=20, FF20w05 T=0"},
		{"Y, abs", "", "0200r8C Code=8C PC=0201, 0201r20 PC=0202 Lo=20, 0202r00 PC=0203 Hi=00 T=20, 0020w03 T=0"},
		{"A, abx", "", "0200r9D Code=9D PC=0201, 0201r1B PC=0202 Lo=1B, 0202r03 PC=0203 Hi=03 Lo=20 T=19, 0320r77 T=20, 0320w10 T=0"},
		{"A, abx, to the next page", "X=F0", "0200r9D Code=9D PC=0201, 0201r1B PC=0202 Lo=1B, 0202r03 PC=0203 Hi=03 Lo=0B Cross=1 T=19, 030Br77 Hi=04 T=20, 040Bw10 T=0"},
		{"A, aby", "Cross=1", "0200r99 Code=99 PC=0201, 0201r1B PC=0202 Lo=1B, 0202r03 PC=0203 Hi=03 Lo=1E Cross=0 T=19, 031Er77 T=20, 031Ew10 T=0"},
		{"A, aby, to the next page", "Y=E5", "0200r99 Code=99 PC=0201, 0201r1B PC=0202 Lo=1B, 0202rFF PC=0203 Hi=FF Lo=00 Cross=1 T=19, FF00r77 Hi=00 T=20, 0000w10 T=0"},
		{"A, inx", "", "0200r81 Code=81 PC=0201, 0201rFA PC=0202 Val=FA, 00FAr77 Val=FF, 00FFr20 Lo=20, 0000r03 Hi=03 T=20, 0320w10 T=0"},
		{"A, iny", "", "0200r91 Code=91 PC=0201, 0201r10 PC=0202 Val=10, 0010r20 Lo=20, 0011r03 Hi=03 Lo=23 T=19, 0323r77 T=20, 0323w10 T=0"},
		{"A, iny, to the next page", "Y=F0", "0200r91 Code=91 PC=0201, 0201rFF PC=0202 Val=FF, 00FFr20 Lo=20, 0000r03 Hi=03 Lo=10 Cross=1 T=19, 0310r77 Hi=04 T=20, 0410w10 T=0"},
	})
}

func TestCoreModifies(t *testing.T) {
	checkClocks(t, []clocksOfCore{
		{"INC zpg", "", "0200rE6 Code=E6 PC=0201, 0201r10 PC=0202 Lo=10 Hi=00 T=20, 0010r20 Val=20 T=21, 0010w20 T=22, 0010w21 T=0"},
		{"INC of 255", "P=N.U....C", "0200rE6 Code=E6 PC=0201, 0201r10 PC=0202 Lo=10 Hi=00 T=20, 0010rFF Val=FF T=21, 0010wFF T=22, 0010w00 P=..U...ZC T=0"},
		{"DEC zpx of 0", "X=FF", "0200rD6 Code=D6 PC=0201, 0201r10 PC=0202 Lo=10, 0010r77 Lo=0F Hi=00 T=20, 000Fr00 Val=00 T=21, 000Fw00 T=22, 000FwFF P=N.U..... T=0"},
		{"ASL abs", "P=..U....C", "0200r0E Code=0E PC=0201, 0201r20 PC=0202 Lo=20, 0202r03 PC=0203 Hi=03 T=20, 0320r7F Val=7F T=21, 0320w7F T=22, 0320wFE P=N.U..... T=0"},
		{"ROR abx", "P=..U....C", "0200r7E Code=7E PC=0201, 0201r1B PC=0202 Lo=1B, 0202r03 PC=0203 Hi=03 Lo=20 T=19, 0320r77 T=20, 0320r7F Val=7F T=21, 0320w7F T=22, 0320wBF P=N.U....C T=0"},
		{"LSR abx to the next page", "X=F0", "0200r5E Code=5E PC=0201, 0201r1B PC=0202 Lo=1B, 0202r03 PC=0203 Hi=03 Lo=0B Cross=1 T=19, 030Br77 Hi=04 T=20, 040Br01 Val=01 T=21, 040Bw01 T=22, 040Bw00 P=..U...ZC T=0"},
		{"ROL zpg", "P=..U....C", "0200r26 Code=26 PC=0201, 0201r10 PC=0202 Lo=10 Hi=00 T=20, 0010r40 Val=40 T=21, 0010w40 T=22, 0010w81 P=N.U..... T=0"},
	})
}

func TestCoreWithoutOperands(t *testing.T) {
	checkClocks(t, []clocksOfCore{
		{"NOP", "P=NVU.DIZC", "0200rEA Code=EA PC=0201, 0201r66 T=0"},
		{"TAX", "A=00", "0200rAA Code=AA PC=0201, 0201r66 X=00 P=..U...Z. T=0"},
		{"TXS", "X=00", "0200r9A Code=9A PC=0201, 0201r66 S=00 T=0"},
		{"DEY", "Y=00", "0200r88 Code=88 PC=0201, 0201r66 Y=FF P=N.U..... T=0"},
		{"SEC", "", "0200r38 Code=38 PC=0201, 0201r66 P=..U....C T=0"},
		{"ASL acc", "A=81", "0200r0A Code=0A PC=0201, 0201r66 A=02 P=..U....C T=0"},
		{"ROR acc", "A=00 P=..U....C", "0200r6A Code=6A PC=0201, 0201r66 A=80 P=N.U..... T=0"},
	})
}

func TestCorePushesAndPulls(t *testing.T) {
	checkClocks(t, []clocksOfCore{
		{"PHA", "", "0200r48 Code=48 PC=0201, 0201r66, 01FDw10 S=FC T=0"},
		{"PHA at 0", "S=00", "0200r48 Code=48 PC=0201, 0201r66, 0100w10 S=FF T=0"},
		{"PHP", "P=NVU.DIZC", "0200r08 Code=08 PC=0201, 0201r66, 01FDwFF S=FC T=0"},
		{"PHP of none", "S=00", "0200r08 Code=08 PC=0201, 0201r66, 0100w30 S=FF T=0"},
		{"PLA", "", "0200r68 Code=68 PC=0201, 0201r66, 01FDr77 S=FE, 01FEr80 A=80 P=N.U..... T=0"},
		{"PLA at 255", "S=FF", "0200r68 Code=68 PC=0201, 0201r66, 01FFr77 S=00, 0100r00 A=00 P=..U...Z. T=0"},
		{"PLP", "", "0200r28 Code=28 PC=0201, 0201r66, 01FDr77 S=FE, 01FErFF P=NVU.DIZC T=0"},
		{"PLP of none, at 255", "S=FF P=NVU.DIZC", "0200r28 Code=28 PC=0201, 0201r66, 01FFr77 S=00, 0100r10 P=..U..... T=0"},
		{"RTI", "S=FA", "0200r40 Code=40 PC=0201, 0201r66, 01FAr77 S=FB, 01FBrC3 S=FC P=NVU...ZC, 01FCr34 S=FD Lo=34, 01FDr02 PC=0234 T=0"},
		{"RTI at 254", "S=FE", "0200r40 Code=40 PC=0201, 0201r66, 01FEr77 S=FF, 01FFr10 S=00, 0100rFF S=01 Lo=FF, 0101rFF PC=FFFF T=0"},
		{"RTS", "S=FB", "0200r60 Code=60 PC=0201, 0201r66, 01FBr77 S=FC, 01FCr34 S=FD Lo=34, 01FDr02 PC=0234, 0234r66 PC=0235 T=0"},
		{"RTS at 255, to 65535", "S=FF", "0200r60 Code=60 PC=0201, 0201r66, 01FFr77 S=00, 0100rFF S=01 Lo=FF, 0101rFF PC=FFFF, FFFFr66 PC=0000 T=0"},
		{"JSR", "", "0200r20 Code=20 PC=0201, 0201r40 PC=0202 Lo=40, 01FDr77, 01FDw02 S=FC, 01FCw02 S=FB, 0202r03 PC=0340 T=0"},
		{"JSR at 0", "S=00 PC=12FE", "12FEr20 Code=20 PC=12FF, 12FFr40 PC=1300 Lo=40, 0100r77, 0100w13 S=FF, 01FFw00 S=FE, 1300rFF PC=FF40 T=0"},
	})
}

func TestCoreJumpsAndBranches(t *testing.T) {
	checkClocks(t, []clocksOfCore{
		{"JMP abs", "", "0200r4C Code=4C PC=0201, 0201r40 PC=0202 Lo=40, 0202r03 PC=0340 T=0"},
		{"JMP ind", "", "0200r6C Code=6C PC=0201, 0201r20 PC=0202 Lo=20, 0202r03 PC=0203 Hi=03, 0320r7F Val=7F, 0321r44 PC=447F T=0"},
		{"JMP ind at a page's end", "", "0200r6C Code=6C PC=0201, 0201rFF PC=0202 Lo=FF, 0202r02 PC=0203 Hi=02, 02FFr12 Val=12, 0200r6C PC=6C12 T=0"},
		{"not taken", "P=..U...Z.", "0200rD0 Code=D0 PC=0201, 0201r10 PC=0202 Lo=10 T=0"},
		{"not taken to another page", "P=..U...Z.", "0200rD0 Code=D0 PC=0201, 0201r80 PC=0202 Lo=80 T=0"},
		{"taken forth", "", "0200rD0 Code=D0 PC=0201, 0201r10 PC=0202 Lo=10, 0202r66 PC=0212 T=0"},
		{"taken back", "PC=02F0", "02F0rF0 Code=F0 PC=02F1, 02F1r80 PC=02F2 Lo=80 T=0"},
		{"taken to the end of the page", "PC=02F0", "02F0r50 Code=50 PC=02F1, 02F1r0D PC=02F2 Lo=0D, 02F2r66 PC=02FF T=0"},
		{"taken to the next page", "PC=02F0", "02F0r10 Code=10 PC=02F1, 02F1r0E PC=02F2 Lo=0E, 02F2r66 PC=0200 Hi=03, 0200r66 PC=0300 T=0"},
		{"taken far to the next page", "PC=02F0", "02F0r90 Code=90 PC=02F1, 02F1r7F PC=02F2 Lo=7F, 02F2r66 PC=0271 Hi=03, 0271r66 PC=0371 T=0"},
		{"taken to the start of the page", "PC=0300", "0300rD0 Code=D0 PC=0301, 0301rFE PC=0302 Lo=FE, 0302r66 PC=0300 T=0"},
		{"taken to the page ahead", "PC=0300", "0300rD0 Code=D0 PC=0301, 0301rFD PC=0302 Lo=FD, 0302r66 PC=03FF Hi=02, 03FFr66 PC=02FF T=0"},
		{"taken beyond 65535", "PC=FFF0 P=N.U.....", "FFF0r30 Code=30 PC=FFF1, FFF1r20 PC=FFF2 Lo=20, FFF2r66 PC=FF12 Hi=00, FF12r66 PC=0012 T=0"},
		{"taken beyond 0", "PC=0000 P=..U....C", "0000rB0 Code=B0 PC=0001, 0001r80 PC=0002 Lo=80, 0002r66 PC=0082 Hi=FF, 0082r66 PC=FF82 T=0"},
	})
}

func TestCoreAtTheLastAddress(t *testing.T) {
	checkClocks(t, []clocksOfCore{
		{"imp", "PC=FFFF", "FFFFrEA Code=EA PC=0000, 0000r66 T=0"},
		{"imm", "PC=FFFF", "FFFFrA9 Code=A9 PC=0000, 0000r01 PC=0001 A=01 T=0"},
		{"abs", "PC=FFFE", "FFFErAD Code=AD PC=FFFF, FFFFr20 PC=0000 Lo=20, 0000r03 PC=0001 Hi=03 T=20, 0320r7F A=7F T=0"},
		{"BRK", "PC=FFFE", "FFFEr00 Code=00 PC=FFFF, FFFFr66 PC=0000, 01FDw00 S=FC, 01FCw00 S=FB, 01FBw30 S=FA, FFFEr34 Lo=34 Val=FE P=..U..I.., FFFFr12 PC=1234 T=0"},
		{"what interrupts", "PC=FFFF Next=01", "FFFFr66 Code=00 Seq=01 Next=00, FFFFr66, 01FDwFF S=FC, 01FCwFF S=FB, 01FBw20 S=FA, FFFEr34 Lo=34 Val=FE P=..U..I.., FFFFr12 PC=1234 T=0"},
		{"a JAM", "PC=FFFF", "FFFFr02 Code=02 PC=0000 Jam=1"},
	})
}

// TestCoreBreaks: all that goes the way of a BRK, with falls that come at none of its clocks, or at some.
func TestCoreBreaks(t *testing.T) {
	fallen := "01FDw02 S=FC, 01FCw02 S=FB, 01FBw30 S=FA"
	pushed := "01FDw02 S=FC, 01FCw00 S=FB, 01FBw20 S=FA"
	checkClocks(t, []clocksOfCore{
		{"BRK", "", "0200r00 Code=00 PC=0201, 0201r66 PC=0202, " + fallen + ", FFFEr34 Lo=34 Val=FE P=..U..I.., FFFFr12 PC=1234 T=0"},
		{"BRK with all notes", "P=NVU.DIZC S=00", "0200r00 Code=00 PC=0201, 0201r66 PC=0202, 0100w02 S=FF, 01FFw02 S=FE, 01FEwFF S=FD, FFFEr34 Lo=34 Val=FE, FFFFr12 PC=1234 T=0"},
		{"TaIrq", "Next=01", "0200rA9 Code=00 Seq=01 Next=00, 0200rA9, " + pushed + ", FFFEr34 Lo=34 Val=FE P=..U..I.., FFFFr12 PC=1234 T=0"},
		{"TaIrq, a JAM there", "Next=01 Seq=03", "0200r02 Code=00 Seq=01 Next=00, 0200r02, " + pushed + ", FFFEr34 Lo=34 Val=FE P=..U..I.., FFFFr12 PC=1234 T=0"},
		{"TaIrq at 1, with notes", "Next=01 S=01 P=N.U.D..C", "0200r66 Code=00 Seq=01 Next=00, 0200r66, 0101w02 S=00, 0100w00 S=FF, 01FFwA9 S=FE, FFFEr34 Lo=34 Val=FE P=N.U.DI.C, FFFFr12 PC=1234 T=0"},
		{"TaNmi", "Next=02 Seq=01", "0200r66 ^e Code=00 Seq=02 Next=00, 0200r66, " + pushed + ", FFFAr34 ! Lo=34 Val=FA P=..U..I.., FFFBr12 PC=1234 T=0"},
		{"TaNmi, low all the time", "Next=02", "0200r66 ^nei Code=00 Seq=02 Next=00, 0200r66, " + pushed + ", FFFAr34 ! Lo=34 Val=FA P=..U..I.., FFFBr12 PC=1234 T=0"},
		{"TaNmi whose fall is gone", "Next=02", "0200r66 Code=00 Seq=02 Next=00, 0200r66, " + pushed + ", FFFEr34 Lo=34 Val=FE P=..U..I.., FFFFr12 PC=1234 T=0"},
		{"BRK, a fall at once", "", "0200r00 ^e Code=00 PC=0201, 0201r66 PC=0202, " + fallen + ", FFFAr34 ! Lo=34 Val=FA P=..U..I.., FFFBr12 PC=1234 T=0"},
		{"BRK, a fall at 5", "", "0200r00 Code=00 PC=0201, 0201r66 PC=0202, " + fallen + ", FFFAr34 ^ne ! Lo=34 Val=FA P=..U..I.., FFFBr12 PC=1234 T=0"},
		{"BRK, a fall behind 5", "", "0200r00 Code=00 PC=0201, 0201r66 PC=0202, " + fallen + ", FFFEr34 Lo=34 Val=FE P=..U..I.., FFFFr12 ^e PC=1234 T=0 Next=02"},
		{"BRK, a fall at 5 and one behind", "", "0200r00 Code=00 PC=0201, 0201r66 PC=0202, " + fallen + ", FFFAr34 ^e ! Lo=34 Val=FA P=..U..I.., FFFBr12 ^e PC=1234 T=0 Next=02"},
		{"BRK, a fall that is taken ahead of 5", "", "0200r00 Code=00 PC=0201, 0201r66 ^e PC=0202, 01FDw02 ^ S=FC, 01FCw02 S=FB, 01FBw30 S=FA, FFFEr34 Lo=34 Val=FE P=..U..I.., FFFFr12 PC=1234 T=0"},
		{"BRK, Irq all the time", "", "0200r00 ^i Code=00 PC=0201, 0201r66 PC=0202, " + fallen + ", FFFEr34 Lo=34 Val=FE P=..U..I.., FFFFr12 PC=1234 T=0"},
		{"TaIrq, a fall at 5", "Next=01", "0200r66 ^i Code=00 Seq=01 Next=00, 0200r66, " + pushed + ", FFFAr34 ^nei ! Lo=34 Val=FA P=..U..I.., FFFBr12 PC=1234 T=0"},
		{"TaIrq, a fall behind 5", "Next=01", "0200r66 ^i Code=00 Seq=01 Next=00, 0200r66, " + pushed + ", FFFEr34 Lo=34 Val=FE P=..U..I.., FFFFr12 ^nei PC=1234 T=0 Next=02"},
		{"TaIrq that isn't low any more", "Next=01", "0200r66 Code=00 Seq=01 Next=00, 0200r66, " + pushed + ", FFFEr34 Lo=34 Val=FE P=..U..I.., FFFFr12 PC=1234 T=0"},
	})
}

func TestCoreOfReset(t *testing.T) {
	checkClocks(t, []clocksOfCore{
		{"TaReset", "Next=03", "0200r66 Code=00 Seq=03 Next=00, 0200r66, 01FDr77 S=FC, 01FCr77 S=FB, 01FBr77 S=FA, FFFCr34 Lo=34 Val=FC P=..U..I.., FFFDr12 PC=1234 T=0"},
		{"TaReset at 0", "Next=03 S=00 P=NVU.DIZC", "0200r66 Code=00 Seq=03 Next=00, 0200r66, 0100r77 S=FF, 01FFr77 S=FE, 01FEr77 S=FD, FFFCr34 Lo=34 Val=FC, FFFDr12 PC=1234 T=0"},
		{"TaReset at 2, a fall", "Next=03 S=02 PC=FFFF", "FFFFr66 ^e Code=00 Seq=03 Next=00, FFFFr66, 0102r77 S=01, 0101r77 S=00, 0100r77 S=FF, FFFCr34 Lo=34 Val=FC P=..U..I.., FFFDr12 PC=1234 T=0 Next=02"},
		{"TaReset, Irq", "Next=03", "0200r66 ^i Code=00 Seq=03 Next=00, 0200r66, 01FDr77 S=FC, 01FCr77 S=FB, 01FBr77 S=FA, FFFCr34 Lo=34 Val=FC P=..U..I.., FFFDr12 PC=1234 T=0"},
		{"TaReset, all lines", "Next=03 P=..U..I..", "0200r66 ^nei Code=00 Seq=03 Next=00, 0200r66, 01FDr77 S=FC, 01FCr77 S=FB, 01FBr77 S=FA, FFFCr34 Lo=34 Val=FC, FFFDr12 PC=1234 T=0 Next=02"},
	})
}

// TestCoreJams: the byte is read, and nothing happens any more, whatever the lines are.
func TestCoreJams(t *testing.T) {
	row := clocksOfCore{"a JAM", "Seq=02", "0200r02 Code=02 PC=0201 Jam=1 Seq=00, FFFFr55 T=1, FFFFr66 ^e T=1, FFFFr77 ^nei T=1, FFFFrEA ^ T=1"}
	c := row.check(t, impl.Wires{})
	if !c.Jam || impl.Fetches(c) {
		t.Errorf("%+v", c)
	}
	c = impl.Reset(c)
	if c.Jam || !impl.Fetches(c) || c.Next != impl.TaReset {
		t.Errorf("reset: %+v", c)
	}
	if got := impl.Want(c, impl.Wires{}); got != (impl.Bus{Addr: 0x201}) {
		t.Errorf("reset: wants %+v", got)
	}
}

// TestCoreInJam: at each T, whatever was going on.
func TestCoreInJam(t *testing.T) {
	for _, code := range []int{0, 2, 0x4C, 0x8D, 0xE6, 0xEA} {
		for _, at := range rightTs() {
			for take := range 4 {
				c := coreOf(t, baseCore(), "Jam=1 Cross=1")
				c.Code, c.T, c.Seq, c.Next = code, at, take, 3-take
				for _, w := range allWires() {
					got, wires := impl.Fed(c, 0xEA, w)
					checkCore(t, "in a jam", got, c)
					checkWires(t, "in a jam", wires, w)
					if bus := impl.Want(c, w); bus != (impl.Bus{Addr: 65535}) || impl.Fetches(c) {
						t.Errorf("in a jam at %d it wants %+v", at, bus)
					}
				}
			}
		}
	}
}

// TestCoreNotesCountLater: an instruction that changes I in its last clock is one behind; RTI, and a break, aren't.
func TestCoreNotesCountLater(t *testing.T) {
	rows := []struct {
		before, clocks string
	}{
		{"P=..U..I..", "0200r58 ^i Code=58 PC=0201, 0201r66 P=..U..... T=0, 0201rEA Code=EA PC=0202, 0202r66 T=0 Next=01"},
		{"P=..U..I..", "0200r58 ^i Code=58 PC=0201, 0201r66 P=..U..... T=0, 0201r78 Code=78 PC=0202, 0202r66 P=..U..I.. T=0 Next=01"},
		{"P=..U..I..", "0200r28 ^i Code=28 PC=0201, 0201r66, 01FDr66 S=FE, 01FEr00 P=..U..... T=0, 0201rEA Code=EA PC=0202, 0202r66 T=0 Next=01"},
		{"", "0200r78 ^i Code=78 PC=0201, 0201r66 P=..U..I.. T=0 Next=01"},
		{"", "0200r28 ^i Code=28 PC=0201, 0201r66, 01FDr66 S=FE, 01FErFF P=NVU.DIZC T=0 Next=01"},
		{"", "0200r78 Code=78 PC=0201, 0201r66 P=..U..I.. T=0, 0201rEA ^i Code=EA PC=0202, 0202r66 T=0"},
		{"P=..U..I..", "0200r40 ^i Code=40 PC=0201, 0201r66, 01FDr66 S=FE, 01FEr00 S=FF P=..U....., 01FFr34 S=00 Lo=34, 0100r12 PC=1234 T=0 Next=01"},
		{"", "0200r40 ^i Code=40 PC=0201, 0201r66, 01FDr66 S=FE, 01FEr04 S=FF P=..U..I.., 01FFr34 S=00 Lo=34, 0100r12 PC=1234 T=0"},
		{"P=..U..I..", "0200r58 ^nei Code=58 PC=0201, 0201r66 P=..U..... T=0 Next=02"},
		{"P=..U..I..", "0200rEA ^i Code=EA PC=0201, 0201r66 T=0, 0201rEA ^ne Code=EA PC=0202, 0202r66 T=0 Next=02"},
		{"", "0200rEA ^i Code=EA PC=0201, 0201r66 ^ T=0"},
		{"", "0200rEA Code=EA PC=0201, 0201r66 ^i T=0 Next=01, 0201r66 Code=00 Seq=01 Next=00"},
		{"", "0200rEA ^e Code=EA PC=0201, 0201r66 T=0 Next=02, 0201r66 Code=00 Seq=02 Next=00"},
	}
	for _, row := range rows {
		clocksOfCore{row.clocks, row.before, row.clocks}.check(t, impl.Wires{})
	}
}

// rightTs are all that a right Core can have.
func rightTs() []int {
	return []int{0, 1, 2, 3, 4, 5, 6, 19, 20, 21, 22}
}

func TestCoreOkOfT(t *testing.T) {
	for n := -300; n <= 600; n++ {
		want := slices.Contains(rightTs(), n)
		if got := impl.CoreOk(coreWith(baseCore(), "T", n)); got != want {
			t.Errorf("CoreOk with T %d is %t", n, got)
		}
	}
}

func TestCoreOkOfParts(t *testing.T) {
	most := map[string]int{"Seq": 3, "Next": 3, "Code": 255, "Lo": 255, "Hi": 255, "Val": 255}
	for part, last := range most {
		for n := -300; n <= 600; n++ {
			if got, want := impl.CoreOk(coreWith(baseCore(), part, n)), n >= 0 && n <= last; got != want {
				t.Errorf("CoreOk with %s %d is %t", part, n, got)
			}
		}
	}
	for _, n := range oddNumbers() {
		for part, last := range most {
			if got, want := impl.CoreOk(coreWith(baseCore(), part, n)), n >= 0 && n <= last; got != want {
				t.Errorf("CoreOk with %s %d is %t", part, n, got)
			}
		}
		if got, want := impl.CoreOk(coreWith(baseCore(), "T", n)), slices.Contains(rightTs(), n); got != want {
			t.Errorf("CoreOk with T %d is %t", n, got)
		}
	}
}

func TestCoreOkOfRegsAndFlags(t *testing.T) {
	for _, part := range []string{"A", "X", "Y", "S", "P", "Pc"} {
		for _, n := range append(noBytes(), 32, 48, 0xEF, 65535, 65536) {
			c := baseCore()
			c.Regs = regsWith(part, n)
			if got, want := impl.CoreOk(c), impl.RegsOk(c.Regs); got != want {
				t.Errorf("CoreOk with %s %d is %t", part, n, got)
			}
		}
	}
	for _, text := range []string{"", "Cross=1", "Jam=1", "Cross=1 Jam=1 T=22 Seq=03 Next=03", "Code=FF Lo=FF Hi=FF Val=FF", "Code=00 Lo=00 Hi=00 Val=00"} {
		if !impl.CoreOk(coreOf(t, baseCore(), text)) {
			t.Errorf("CoreOk with %q is false", text)
		}
	}
	if impl.CoreOk(impl.Core{}) || !impl.CoreOk(impl.Core{Regs: impl.Regs{P: 32}}) {
		t.Error("CoreOk of the least ones")
	}
}

// wrongCores are each wrong in one part alone, and each has something to do otherwise.
func wrongCores() []impl.Core {
	var wrong []impl.Core
	for _, at := range []int{0, 1, 20} {
		c := coreWith(baseCore(), "T", at)
		for part, least := range map[string]int{"Seq": 4, "Next": 4, "Code": 256, "Lo": 256, "Hi": 256, "Val": 256} {
			for _, n := range []int{least, least + 1, -1, -256, math.MinInt, math.MaxInt} {
				wrong = append(wrong, coreWith(c, part, n))
			}
		}
		for _, r := range []impl.Regs{{}, regsWith("A", 256), regsWith("X", -1), regsWith("Y", 256), regsWith("S", -1), regsWith("P", 4), regsWith("P", 0x30), regsWith("P", 288), regsWith("Pc", 65536), regsWith("Pc", -1)} {
			c.Regs = r
			wrong = append(wrong, c)
		}
	}
	for _, at := range []int{-1, 7, 8, 18, 23, 24, 256, 276, math.MinInt, math.MaxInt} {
		wrong = append(wrong, coreWith(baseCore(), "T", at))
	}
	return wrong
}

func TestWrongCoresStay(t *testing.T) {
	for _, c := range wrongCores() {
		for _, jam := range []bool{false, true} {
			c.Jam = jam
			for _, w := range allWires() {
				got, wires := impl.Fed(c, 0xEA, w)
				checkCore(t, "not right", got, c)
				checkWires(t, "not right", wires, w)
				if bus := impl.Want(c, w); bus != (impl.Bus{}) || impl.CoreOk(c) {
					t.Errorf("%+v wants %+v", c, bus)
				}
			}
		}
	}
}

func TestResetOfAll(t *testing.T) {
	cores := append(wrongCores(), impl.Core{})
	for _, at := range rightTs() {
		for take := range 4 {
			cores = append(cores, coreOf(t, baseCore(), "Cross=1 Seq="+impl.HexText(take, 2)+" Next="+impl.HexText(3-take, 2)+" T="+impl.DecText(at)))
		}
	}
	for _, c := range cores {
		for _, jam := range []bool{false, true} {
			c.Jam = jam
			want := c
			want.T, want.Next, want.Jam = 0, 3, false
			checkCore(t, "reset", impl.Reset(c), want)
		}
	}
}

func TestFetchesOfAll(t *testing.T) {
	for _, c := range append(wrongCores(), baseCore(), impl.Core{}, coreOf(t, baseCore(), "Next=03 Code=02")) {
		for _, at := range append(rightTs(), -1, 7, 18, 23, 256, math.MinInt, math.MaxInt) {
			for _, jam := range []bool{false, true} {
				c.T, c.Jam = at, jam
				if got, want := impl.Fetches(c), at == 0 && !jam; got != want {
					t.Errorf("Fetches at %d, jam %t, is %t", at, jam, got)
				}
			}
		}
	}
}

// coreDone is what a Core does with a memory until it Fetches again, or jams. Wires are always the same.
type coreDone struct {
	core  impl.Core
	mem   impl.Mem
	open  int
	wires impl.Wires
	bus   []impl.Bus
}

func (d *coreDone) clock() {
	b := impl.Want(d.core, d.wires)
	if b.Write {
		d.mem = impl.Poke(d.mem, b.Addr, b.Data)
	} else {
		b.Data = impl.Peek(d.mem, b.Addr, d.open)
	}
	d.open = b.Data
	d.bus = append(d.bus, b)
	d.core, d.wires = impl.Fed(d.core, b.Data, d.wires)
}

func (d *coreDone) instruction(t *testing.T) {
	t.Helper()
	d.bus = nil
	for len(d.bus) == 0 || !impl.Fetches(d.core) && !d.core.Jam {
		d.clock()
		if !impl.CoreOk(d.core) || len(d.bus) > 8 {
			t.Fatalf("not right, or never done: %+v", d.core)
		}
	}
}

// TestCoreDoesWhatTheWholeDoes: all bytes, from many Flats and from what other instructions may have left in a Core.
func TestCoreDoesWhatTheWholeDoes(t *testing.T) {
	for code := range 256 {
		next := numbersFrom(5000 + code)
		for range 150 {
			f := flatAt(code, next)
			c := impl.Core{Regs: f.Regs, Seq: next(4), Code: next(256), Lo: next(256), Hi: next(256), Val: next(256), Cross: next(2) == 1}
			d := coreDone{core: c, mem: f.Mem, open: f.Open}
			d.instruction(t)
			want, bus := impl.Do(f)
			if !slices.Equal(d.bus, bus) {
				t.Fatalf("byte %02X of %+v:\n did %s\nwant %s", code, f.Regs, busText(d.bus), busText(bus))
			}
			checkFlat(t, "byte "+impl.HexText(code, 2), impl.Flat{Regs: d.core.Regs, Mem: d.mem, Open: d.open, Jam: d.core.Jam}, want)
			if impl.Fetches(d.core) == want.Jam || d.core.Code != code || d.core.Next != impl.TaNone || d.core.Seq != impl.TaNone {
				t.Fatalf("byte %02X: behind it %+v", code, d.core)
			}
		}
	}
}

// TestCoreOfPrograms: one instruction behind the other, with a line that is low but masked; the core takes nothing else up.
func TestCoreOfPrograms(t *testing.T) {
	for seed := range 60 {
		next := numbersFrom(9000 + seed)
		f := flatAt(next(256), next)
		d := coreDone{core: impl.Core{Regs: f.Regs}, mem: f.Mem, open: f.Open}
		for range 60 {
			want, bus := impl.Do(f)
			// Only a line that is masked all the time is taken nowhere.
			d.wires.Irq = isNoted(f.Regs.P, 4) && isNoted(want.Regs.P, 4)
			d.instruction(t)
			if !slices.Equal(d.bus, bus) || d.core.Regs != want.Regs || d.mem != want.Mem || d.core.Jam != want.Jam || d.core.Next != impl.TaNone {
				t.Fatalf("seed %d, %+v:\n did %s\nwant %s", seed, d.core, busText(d.bus), busText(bus))
			}
			if f = want; f.Jam {
				break
			}
		}
	}
}

// TestInterruptedComesBack: an RTI behind what interrupts leads back, with all as it was, and one more is taken just where it has to be.
func TestInterruptedComesBack(t *testing.T) {
	m := memOf(t, "0200 EA", "FFFA 0003", "FFFE 4003", "0300 40", "0340 40")
	for s := range 256 {
		for _, p := range []int{0x20, 0x21, 0xCB | 0x20} {
			c := baseCore()
			c.Regs.S, c.Regs.P, c.Next = s, p, impl.TaIrq
			d := coreDone{core: c, mem: m, wires: wiresOf("i")}
			d.instruction(t)
			if d.core.Regs.Pc != 0x340 || d.core.Regs.P != p|4 || d.core.Next != impl.TaNone || len(d.bus) != 7 {
				t.Fatalf("taken: %+v", d.core)
			}
			d.instruction(t)
			if d.core.Regs != c.Regs || d.core.Next != impl.TaIrq || len(d.bus) != 6 {
				t.Fatalf("back: %+v, want %+v", d.core.Regs, c.Regs)
			}
			d.wires = wiresOf("e")
			d.instruction(t)
			if d.core.Regs.Pc != 0x300 || d.wires.Edge || d.core.Next != impl.TaNone {
				t.Fatalf("taken too: %+v", d.core)
			}
			d.instruction(t)
			if d.core.Regs != c.Regs || d.core.Next != impl.TaNone {
				t.Fatalf("back too: %+v, want %+v", d.core.Regs, c.Regs)
			}
		}
	}
}

// coreWords tells of each instruction, by its name or its mode, what it does at T 1 and behind, with commas between. The
// first word of each is where the bus is, and what is written is told with =; the others are done in order. What is told
// with a number is T; done is told at the last clock.
func coreWords() map[string]string {
	return map[string]string{
		"BRK": "pc skip, push=pch, push=pcl, push=notes, vector, vectors pcfromlo done",
		"PHA": "pc, push=a done",
		"PHP": "pc, push=broken done",
		"PLA": "pc, stack up, stack a done",
		"PLP": "pc, stack up, stack p done",
		"RTI": "pc, stack up, stack p up, stack lo up, stack pcfromlo done",
		"RTS": "pc, stack up, stack lo up, stack pcfromlo, pc next done",
		"JSR": "pc next lo, stack, push=pch, push=pcl, pc pcfromlo done",
		"JMP": "pc next lo, pc pcfromlo done",
		"imp": "pc does done",
		"acc": "pc shifts done",
		"imm": "pc next applied done",
		"zpg": "pc next lo hi0 20",
		"zpx": "pc next lo, zlo indexed hi0 20",
		"zpy": "pc next lo, zlo indexed hi0 20",
		"abs": "pc next lo, pc next hi 20",
		"abx": "pc next lo, pc next hi indexed crossed",
		"aby": "pc next lo, pc next hi indexed crossed",
		"inx": "pc next val, zval valindexed, zval lo, zval1 hi 20",
		"iny": "pc next val, zval lo, zval1 hi indexed crossed",
		"ind": "pc next lo, pc next hi, there val, there1 pcfromval done",
		"rel": "pc next lo whether, pc branch, pc pchigh done",
	}
}

// coreModel goes through a clock by those words.
type coreModel struct {
	impl.Core
	op    listed
	kind  int
	wires impl.Wires
	old   int
	data  int
	bus   impl.Bus
	more  bool
}

// wordsNow are those of the clock that a Core stands at.
func (m *coreModel) wordsNow(words map[string]string) []string {
	switch {
	case m.Jam:
		return []string{"jam"}
	case m.T == 0:
		return []string{"pc", "begin"}
	case m.T == 19:
		return []string{"there", "mend", "20"}
	case m.T == 20:
		return strings.Fields([]string{"there applied done", "there=stored done", "there val 21"}[m.kind])
	case m.T == 21:
		return []string{"there=val", "22"}
	case m.T == 22:
		return []string{"there=changed", "done"}
	}
	way, is := words[m.op.name]
	if !is || m.op.mode == "ind" {
		way = words[m.op.mode]
	}
	return strings.Fields(strings.Split(way, ",")[m.T-1])
}

func (m *coreModel) placeOf(where string) int {
	switch where {
	case "jam":
		return 65535
	case "pc":
		return m.Regs.Pc
	case "stack", "push":
		return 256 + m.Regs.S
	case "zlo":
		return m.Lo
	case "zval":
		return m.Val
	case "zval1":
		return (m.Val + 1) % 256
	case "there1":
		return m.Hi*256 + (m.Lo+1)%256
	case "vectors":
		return 65280 + m.Val + 1
	case "vector":
		return m.vector()
	}
	return m.Hi*256 + m.Lo
}

func (m *coreModel) vector() int {
	m.Regs.P |= 4
	m.Val = 254
	if m.Seq == impl.TaReset {
		m.Val = 252
	} else if m.wires.Edge {
		m.Val, m.wires.Edge = 250, false
	}
	m.Lo = m.data
	return 65280 + m.Val
}

func (m *coreModel) byteTold(what string) int {
	switch what {
	case "pch":
		return m.Regs.Pc / 256
	case "pcl":
		return m.Regs.Pc % 256
	case "notes":
		return noted(m.Regs.P, map[int]bool{16: m.Seq == impl.TaNone})
	case "broken":
		return m.Regs.P + 16
	case "val":
		return m.Val
	case "stored":
		return map[byte]int{'A': m.Regs.A, 'X': m.Regs.X, 'Y': m.Regs.Y}[m.op.name[2]]
	case "changed":
		regs, comes := changedOf(m.Regs, m.op.name, m.Val)
		m.Regs = regs
		return comes
	}
	return m.Regs.A
}

func (m *coreModel) onBus(word string) {
	where, what, writes := strings.Cut(word, "=")
	m.bus = impl.Bus{Addr: m.placeOf(where)}
	if where == "push" {
		m.Regs.S = (m.Regs.S + 255) % 256
		writes = m.Seq != impl.TaReset
	}
	if writes {
		m.bus.Write, m.bus.Data = true, m.byteTold(what)
	}
}

func (m *coreModel) index() int {
	if m.op.mode[2] == 'x' {
		return m.Regs.X
	}
	return m.Regs.Y
}

// does is a word that tells of the registers, or of where to go on.
func (m *coreModel) does(word string) {
	switch word {
	case "begin":
		m.begin()
	case "skip":
		if m.Seq == impl.TaNone {
			m.does("next")
		}
	case "next":
		m.Regs.Pc = (m.Regs.Pc + 1) % 65536
	case "up":
		m.Regs.S = (m.Regs.S + 1) % 256
	case "a":
		m.Regs, _ = appliedOf(m.Regs, "LDA", m.data)
	case "p":
		m.Regs.P = noted(m.data, map[int]bool{16: false, 32: true})
	case "does":
		m.Regs, _ = appliedOf(m.Regs, m.op.name, m.Regs.A)
	case "shifts":
		regs, comes := changedOf(m.Regs, m.op.name, m.Regs.A)
		regs.A = comes
		m.Regs = regs
	case "applied":
		m.Regs, _ = appliedOf(m.Regs, m.op.name, m.data)
	case "whether":
		asked := branchesOf()[m.op.name]
		if isNoted(m.Regs.P, asked.flag) != asked.set {
			m.does("done")
		}
	case "branch":
		m.branch()
	case "pchigh":
		m.Regs.Pc = m.Hi*256 + m.Regs.Pc%256
	case "pcfromlo":
		m.Regs.Pc = m.data*256 + m.Lo
	case "pcfromval":
		m.Regs.Pc = m.data*256 + m.Val
	case "done":
		m.T, m.Next = 0, takenOf(m.wires, m.old)
	default:
		m.keeps(word)
	}
}

// keeps is a word that tells of an address.
func (m *coreModel) keeps(word string) {
	switch word {
	case "lo":
		m.Lo = m.data
	case "hi":
		m.Hi = m.data
	case "hi0":
		m.Hi = 0
	case "val":
		m.Val = m.data
	case "indexed":
		m.Lo += m.index()
		m.more = m.Lo > 255
		m.Lo %= 256
	case "valindexed":
		m.Val = (m.Val + m.index()) % 256
	case "crossed":
		m.Cross, m.T = m.more, 19
		if !m.more && m.kind == impl.KiRead {
			m.T = 20
		}
	case "mend":
		if m.Cross {
			m.Hi = (m.Hi + 1) % 256
		}
	case "20", "21", "22":
		m.T, _ = strconv.Atoi(word)
	default:
		panic("the test has " + word)
	}
}

func (m *coreModel) begin() {
	m.Seq, m.Next, m.Code = m.Next, 0, 0
	if m.Seq == impl.TaNone {
		m.Code = m.data
		m.does("next")
	}
}

func (m *coreModel) branch() {
	to := addressOf(m.Regs.Pc + signed(m.Lo))
	if to/256 == m.Regs.Pc/256 {
		m.Regs.Pc = to
		m.does("done")
		return
	}
	m.Hi = to / 256
	m.Regs.Pc = m.Regs.Pc/256*256 + to%256
}

// modelClock is a Core, and its Wires, behind a clock, and what it did on the bus.
func modelClock(c impl.Core, data int, w impl.Wires, list map[int]listed) (impl.Core, impl.Wires, impl.Bus) {
	m := &coreModel{Core: c, op: list[c.Code], wires: w, old: c.Regs.P, data: data}
	m.kind = kindOfListed(m.op.name, m.op.mode)
	words := m.wordsNow(coreWords())
	m.onBus(words[0])
	if !m.Jam {
		m.T++
	}
	for _, word := range words[1:] {
		m.does(word)
	}
	if _, is := list[m.Code]; !is {
		m.Jam = true
	}
	return m.Core, m.wires, m.bus
}

// TestCoreOfMixedBytes: all bytes, with what is read and the lines mixed at each clock.
func TestCoreOfMixedBytes(t *testing.T) {
	list := listByCode(t)
	for code := range 256 {
		next := numbersFrom(70000 + code)
		edgeOr := func() int {
			if next(2) == 0 {
				return []int{0, 1, 127, 128, 254, 255}[next(6)]
			}
			return next(256)
		}
		for round := range 120 {
			c := impl.Core{Seq: next(4), Lo: next(256), Hi: next(256), Val: next(256), Cross: next(2) == 1}
			c.Regs = impl.Regs{A: edgeOr(), X: edgeOr(), Y: edgeOr(), S: edgeOr(), P: impl.Pulled(next(256)), Pc: edgeOr()*256 + edgeOr()}
			if round%4 == 0 {
				c.Next = next(4)
			}
			data, wires := code, allWires()[next(8)]
			for clock := 0; clock == 0 || !impl.Fetches(c) && clock < 9; clock++ {
				if next(2) == 0 {
					wires = allWires()[next(8)]
				}
				want, wantWires, bus := modelClock(c, data, wires, list)
				if got := impl.Want(c, wires); got != bus {
					t.Fatalf("byte %02X, %+v with %+v wants %+v, want %+v", code, c, wires, got, bus)
				}
				got, gotWires := impl.Fed(c, data, wires)
				if got != want || gotWires != wantWires {
					t.Fatalf("byte %02X, %+v with %+v and %02X:\n got %+v, %+v\nwant %+v, %+v", code, c, wires, data, got, gotWires, want, wantWires)
				}
				c, wires, data = got, gotWires, edgeOr()
			}
		}
	}
}

// TestNextOfAllWires: at the clock that is the last, and at no other one, of all lines and of I set or not.
func TestNextOfAllWires(t *testing.T) {
	list := listByCode(t)
	for code := range 256 {
		if _, is := list[code]; !is {
			continue
		}
		for _, w := range allWires() {
			for _, p := range []int{0x20, 0x24, 0xEF, 0xEB} {
				c := baseCore()
				c.Regs.P = p
				c, _ = impl.Fed(c, code, w)
				for clock := 0; !impl.Fetches(c); clock++ {
					before := c
					// Each clock has these Wires, a break its Edge again.
					c, _ = impl.Fed(c, 0x40, w)
					want := impl.TaNone
					if impl.Fetches(c) {
						want = takenOf(w, before.Regs.P)
					}
					if c.Next != want || clock > 6 {
						t.Fatalf("byte %02X with %+v, behind %+v: Next %d, want %d", code, w, before, c.Next, want)
					}
				}
			}
		}
	}
}

// TestFedTakesLowestBits: of each number the byte is meant, at each clock.
func TestFedTakesLowestBits(t *testing.T) {
	for _, code := range []int{0, 0x20, 0x28, 0x40, 0x60, 0x68, 0x6C, 0xA1, 0xB1, 0xB5, 0xBD, 0xD0, 0xDE, 0xA9, 0x9D} {
		c := baseCore()
		for clock := 0; clock == 0 || !impl.Fetches(c); clock++ {
			for _, n := range append(noBytes(), code+256, code-256, code+math.MinInt) {
				got, _ := impl.Fed(c, n, impl.Wires{})
				want, _ := impl.Fed(c, byteOf(n), impl.Wires{})
				if got != want || !impl.CoreOk(got) {
					t.Fatalf("byte %02X, %+v fed with %d = %+v, want %+v", code, c, n, got, want)
				}
			}
			data := 0x81
			if clock == 0 {
				data = code
			}
			c, _ = impl.Fed(c, data, impl.Wires{})
		}
	}
}

// TestRightCoreStaysRight: any right one, even where no instruction leads to it; and what it wants is right, too.
func TestRightCoreStaysRight(t *testing.T) {
	for code := range 256 {
		next := numbersFrom(300 + code)
		for _, at := range rightTs() {
			for range 40 {
				c := impl.Core{Seq: next(4), Code: code, T: at, Lo: next(256), Hi: next(256), Val: 255 - next(2)*next(256), Cross: next(2) == 1, Next: next(4), Jam: next(9) == 0}
				c.Regs = impl.Regs{A: next(256), X: next(256), Y: next(256), S: []int{0, 255, next(256)}[next(3)], P: impl.Pulled(next(256)), Pc: []int{0, 65535, next(65536)}[next(3)]}
				w := allWires()[next(8)]
				b := impl.Want(c, w)
				if b.Addr < 0 || b.Addr > 65535 || b.Data < 0 || b.Data > 255 || !b.Write && b.Data != 0 {
					t.Fatalf("%+v wants %+v", c, b)
				}
				got, wires := impl.Fed(c, next(256), w)
				if !impl.CoreOk(c) || !impl.CoreOk(got) || wires.Nmi != w.Nmi || wires.Irq != w.Irq || wires.Edge && !w.Edge {
					t.Fatalf("%+v with %+v becomes %+v with %+v", c, w, got, wires)
				}
			}
		}
	}
}

// TestCoreAnswersAlways: a panic fails the test; the same question has the same answer.
func TestCoreAnswersAlways(t *testing.T) {
	cores := append(wrongCores(), impl.Core{}, baseCore())
	for _, n := range oddNumbers() {
		for part := range coreNumbers(&impl.Core{}) {
			cores = append(cores, coreWith(baseCore(), part, n))
		}
		c := baseCore()
		c.Regs = impl.Regs{A: n, X: n, Y: n, S: n, P: n, Pc: n}
		cores = append(cores, c)
	}
	for _, c := range cores {
		for _, n := range oddNumbers() {
			for _, w := range allWires() {
				got, wires := impl.Fed(c, n, w)
				again, wiresAgain := impl.Fed(c, n, w)
				if got != again || wires != wiresAgain || impl.Want(c, w) != impl.Want(c, w) || impl.CoreOk(got) != impl.CoreOk(c) {
					t.Errorf("Fed of %+v with %d = %+v", c, n, got)
				}
			}
		}
	}
}
