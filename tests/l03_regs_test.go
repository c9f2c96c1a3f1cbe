package tests

import (
	"fmt"
	"math"
	"strings"
	"testing"

	"loop.example/g00760/impl"
)

const flagLetters = "NVUBDIZC"

// flagOf is the flag whose letter stands at a place of the eight.
func flagOf(place int) int {
	flags := [...]int{impl.FlN, impl.FlV, impl.FlU, impl.FlB, impl.FlD, impl.FlI, impl.FlZ, impl.FlC}
	return flags[place]
}

// flagsOf is the text of notes, put together sign by sign.
func flagsOf(p int) string {
	text := ""
	for place := range 8 {
		if isNoted(p, flagOf(place)) {
			text += flagLetters[place : place+1]
		} else {
			text += "."
		}
	}
	return text
}

func someRegs() impl.Regs {
	return impl.Regs{A: 1, X: 2, Y: 3, S: 255, P: impl.FlU | impl.FlI, Pc: 512}
}

// regsWith are right Regs but for one part, which is v.
func regsWith(part string, v int) impl.Regs {
	r := someRegs()
	parts := map[string]*int{"A": &r.A, "X": &r.X, "Y": &r.Y, "S": &r.S, "P": &r.P, "Pc": &r.Pc}
	*parts[part] = v
	return r
}

func TestRegsOkOfBytes(t *testing.T) {
	for _, part := range []string{"A", "X", "Y", "S"} {
		for v := -300; v <= 600; v++ {
			if got, want := impl.RegsOk(regsWith(part, v)), v >= 0 && v <= 255; got != want {
				t.Errorf("RegsOk with %s = %d is %t", part, v, got)
			}
		}
		for _, v := range noBytes() {
			if got, want := impl.RegsOk(regsWith(part, v)), v >= 0 && v <= 255; got != want {
				t.Errorf("RegsOk with %s = %d is %t", part, v, got)
			}
		}
	}
}

func TestRegsOkOfAddresses(t *testing.T) {
	for _, pc := range []int{0, 1, 255, 256, 257, 0x1FFF, 32767, 32768, 65534, 65535} {
		if !impl.RegsOk(regsWith("Pc", pc)) {
			t.Errorf("RegsOk with Pc = %d is false", pc)
		}
	}
	for _, pc := range []int{-1, -2, -32768, -65535, -65536, 65536, 65537, 65536 + 512, 1 << 32, 1<<32 + 512, math.MaxInt, math.MinInt, math.MinInt + 512} {
		if impl.RegsOk(regsWith("Pc", pc)) {
			t.Errorf("RegsOk with Pc = %d is true", pc)
		}
	}
}

// TestRegsOkOfNotes: with U and without B, a byte, whatever the other six are.
func TestRegsOkOfNotes(t *testing.T) {
	for p := -512; p < 768; p++ {
		want := p >= 0 && p <= 255 && isNoted(p, impl.FlU) && !isNoted(p, impl.FlB)
		if got := impl.RegsOk(regsWith("P", p)); got != want {
			t.Errorf("RegsOk with P = %d is %t", p, got)
		}
	}
	for _, far := range []int{256 + 32, 32 - 256, 1<<32 + 32, math.MinInt + 32, math.MaxInt, math.MinInt, math.MaxInt - 16} {
		if impl.RegsOk(regsWith("P", far)) {
			t.Errorf("RegsOk with P = %d is true", far)
		}
	}
}

func TestRegsOkOfLimits(t *testing.T) {
	right := []impl.Regs{
		{P: impl.FlU}, {A: 255, X: 255, Y: 255, S: 255, P: 255 - impl.FlB, Pc: 65535}, someRegs(),
	}
	for _, r := range right {
		if !impl.RegsOk(r) {
			t.Errorf("RegsOk(%+v) is false", r)
		}
	}
	wrong := []impl.Regs{
		{}, {P: impl.FlB}, {P: impl.FlU | impl.FlB}, {A: 255, X: 255, Y: 255, S: 255, P: 255, Pc: 65535},
		{A: 256, X: 256, Y: 256, S: 256, P: 256 + 32, Pc: 65536}, {A: -1, X: -1, Y: -1, S: -1, P: -1, Pc: -1},
	}
	for _, r := range wrong {
		if impl.RegsOk(r) {
			t.Errorf("RegsOk(%+v) is true", r)
		}
	}
}

func TestPushedAndPulledOfAllBytes(t *testing.T) {
	for p := range 256 {
		for _, b := range []bool{false, true} {
			want := noted(p, map[int]bool{impl.FlU: true, impl.FlB: b})
			if got := impl.Pushed(p, b); got != want {
				t.Errorf("Pushed(%d, %t) = %d, want %d", p, b, got, want)
			}
		}
		want := noted(p, map[int]bool{impl.FlU: true, impl.FlB: false})
		if got := impl.Pulled(p); got != want {
			t.Errorf("Pulled(%d) = %d, want %d", p, got, want)
		}
	}
}

func TestPushedAndPulledOfNotes(t *testing.T) {
	rows := []struct {
		p                       int
		pushed, pushedB, pulled int
	}{
		{0, 32, 48, 32}, {16, 32, 48, 32}, {32, 32, 48, 32}, {48, 32, 48, 32}, {255, 239, 255, 239},
		{239, 239, 255, 239}, {223, 239, 255, 239}, {207, 239, 255, 239}, {129, 161, 177, 161}, {65, 97, 113, 97},
		{-1, 239, 255, 239}, {-256, 32, 48, 32}, {256, 32, 48, 32}, {256 + 65, 97, 113, 97}, {272, 32, 48, 32},
		{math.MaxInt, 239, 255, 239}, {math.MinInt, 32, 48, 32}, {math.MinInt + 129, 161, 177, 161},
	}
	for _, row := range rows {
		if got := impl.Pushed(row.p, false); got != row.pushed {
			t.Errorf("Pushed(%d, false) = %d, want %d", row.p, got, row.pushed)
		}
		if got := impl.Pushed(row.p, true); got != row.pushedB {
			t.Errorf("Pushed(%d, true) = %d, want %d", row.p, got, row.pushedB)
		}
		if got := impl.Pulled(row.p); got != row.pulled {
			t.Errorf("Pulled(%d) = %d, want %d", row.p, got, row.pulled)
		}
	}
}

// TestNotesComeBackFromTheStack: right notes do, whether B was put there or not;
// of others those come back that are kept.
func TestNotesComeBackFromTheStack(t *testing.T) {
	for p := range 256 {
		kept := p
		if !isNoted(p, impl.FlU) {
			kept += impl.FlU
		}
		if isNoted(p, impl.FlB) {
			kept -= impl.FlB
		}
		for _, b := range []bool{false, true} {
			pulled := impl.Pulled(impl.Pushed(p, b))
			if pulled != kept {
				t.Errorf("Pulled(Pushed(%d, %t)) = %d, want %d", p, b, pulled, kept)
			}
			if !impl.RegsOk(regsWith("P", pulled)) {
				t.Errorf("notes %d that are pulled are not right", pulled)
			}
			if impl.Pushed(pulled, b) != impl.Pushed(p, b) {
				t.Errorf("notes %d, pulled, are pushed as others", p)
			}
		}
	}
}

func TestFlagTextOfNotes(t *testing.T) {
	rows := []struct {
		p    int
		want string
	}{
		{0, "........"}, {255, "NVUBDIZC"}, {129, "N......C"}, {36, "..U..I.."}, {48, "..UB...."}, {239, "NVU.DIZC"},
		{128, "N......."}, {64, ".V......"}, {32, "..U....."}, {16, "...B...."}, {8, "....D..."}, {4, ".....I.."},
		{2, "......Z."}, {1, ".......C"}, {127, ".VUBDIZC"}, {191, "N.UBDIZC"}, {223, "NV.BDIZC"}, {247, "NVUB.IZC"},
		{251, "NVUBD.ZC"}, {253, "NVUBDI.C"}, {254, "NVUBDIZ."}, {170, "N.U.D.Z."}, {85, ".V.B.I.C"},
		{256, "........"}, {257, ".......C"}, {-1, "NVUBDIZC"}, {-128, "N......."}, {-256, "........"},
		{math.MaxInt, "NVUBDIZC"}, {math.MinInt, "........"}, {math.MinInt + 36, "..U..I.."},
	}
	for _, row := range rows {
		if got := impl.FlagText(row.p); got != row.want {
			t.Errorf("FlagText(%d) = %q, want %q", row.p, got, row.want)
		}
	}
	for p := range 256 {
		if got, want := impl.FlagText(p), flagsOf(p); got != want {
			t.Errorf("FlagText(%d) = %q, want %q", p, got, want)
		}
	}
}

func TestNotesComeBackFromTheirText(t *testing.T) {
	for p := range 256 {
		if got := impl.ReadFlags(impl.FlagText(p)); got != p {
			t.Errorf("ReadFlags(FlagText(%d)) = %d", p, got)
		}
		if got := impl.ReadFlags(flagsOf(p)); got != p {
			t.Errorf("ReadFlags(%q) = %d, want %d", flagsOf(p), got, p)
		}
	}
}

func TestReadFlagsRefuses(t *testing.T) {
	texts := []string{
		"", ".", "N", "C", ".......", "NVUBDIZ", "VUBDIZC", ".........", "NVUBDIZC.", ".NVUBDIZC", "NVUBDIZCC",
		"NVUBDIZCNVUBDIZC", "................", "nvubdizc", "n......C", "N......c", "C......N", "CZIDBUVN", "VNUBDIZC",
		"NVBUDIZC", "NVUBDICZ", "NNNNNNNN", "CCCCCCCC", "--------", "NV-BDIZC", "NV_BDIZC", "00000000", "11111111",
		"        ", " NVUBDIZ", " NVUBDIZC", "NVUBDIZC ", "NVUBDIZC\n", "NVUBDIZ\n", "NVUBDIZ\x00", "NVUBDIZ,", "NVUBDIZ/",
		"NVUBDIZ\u2024", "NVUBDI\u00b7", "\u2026\u2026..", "\uff0e\uff0e..", strings.Repeat("\u00b7", 8), strings.Repeat("\u2026", 8),
		strings.Repeat(".", 264), strings.Repeat(".", 256), strings.Repeat(flagLetters, 33), "P=NVUBDIZC", "FF", "255",
	}
	for _, text := range append(texts, oddTexts()...) {
		if got := impl.ReadFlags(text); got != -1 {
			t.Errorf("ReadFlags(%q) = %d, want -1", text, got)
		}
	}
}

// TestReadFlagsTakesNoOtherSign puts each byte at each place of several texts.
func TestReadFlagsTakesNoOtherSign(t *testing.T) {
	for _, p := range []int{0, 255, 129, 36, 170, 85} {
		for place := range 8 {
			for b := range 256 {
				signs := []byte(flagsOf(p))
				signs[place] = byte(b)
				want := -1
				if b == '.' || b == int(flagLetters[place]) {
					want = noted(p, map[int]bool{flagOf(place): b != '.'})
				}
				if got := impl.ReadFlags(string(signs)); got != want {
					t.Errorf("ReadFlags(%q) = %d, want %d", signs, got, want)
				}
			}
		}
	}
}

// TestReadFlagsTakesNoOtherLength: neither a beginning of a text of notes, nor more than it.
func TestReadFlagsTakesNoOtherLength(t *testing.T) {
	for p := range 256 {
		text := flagsOf(p)
		for end := range 8 {
			if got := impl.ReadFlags(text[:end]); got != -1 {
				t.Errorf("ReadFlags(%q) = %d, want -1", text[:end], got)
			}
			if got := impl.ReadFlags(text[8-end:]); got != -1 {
				t.Errorf("ReadFlags(%q) = %d, want -1", text[8-end:], got)
			}
		}
		for _, more := range []string{".", "N", "C", " ", "\x00", "\n", text} {
			if impl.ReadFlags(text+more) != -1 || impl.ReadFlags(more+text) != -1 {
				t.Errorf("ReadFlags takes %q with %q", text, more)
			}
		}
	}
}

func TestRegsTextOfRegs(t *testing.T) {
	rows := []struct {
		r    impl.Regs
		want string
	}{
		{someRegs(), "PC=0200 A=01 X=02 Y=03 S=FF P=..U..I.."},
		{impl.Regs{P: 32}, "PC=0000 A=00 X=00 Y=00 S=00 P=..U....."},
		{impl.Regs{A: 255, X: 255, Y: 255, S: 255, P: 239, Pc: 65535}, "PC=FFFF A=FF X=FF Y=FF S=FF P=NVU.DIZC"},
		{impl.Regs{A: 0x12, X: 0x34, Y: 0x56, S: 0x78, P: 0xA9, Pc: 0x9ABC}, "PC=9ABC A=12 X=34 Y=56 S=78 P=N.U.D..C"},
		{impl.Regs{A: 0xAB, X: 0xC, Y: 0xD0, S: 0xEF, P: 0x66, Pc: 0xF}, "PC=000F A=AB X=0C Y=D0 S=EF P=.VU..IZ."},
	}
	for _, row := range rows {
		if got := impl.RegsText(row.r); got != row.want {
			t.Errorf("RegsText(%+v) = %q, want %q", row.r, got, row.want)
		}
	}
}

func TestRegsTextOfAllBytes(t *testing.T) {
	for v := range 256 {
		p := noted(v, map[int]bool{impl.FlU: true, impl.FlB: false})
		r := impl.Regs{A: v, X: 255 - v, Y: v * 7 % 256, S: v * 31 % 256, P: p, Pc: v * 257}
		want := fmt.Sprintf("PC=%04X A=%02X X=%02X Y=%02X S=%02X P=%s", r.Pc, r.A, r.X, r.Y, r.S, flagsOf(r.P))
		if got := impl.RegsText(r); got != want {
			t.Errorf("RegsText(%+v) = %q, want %q", r, got, want)
		}
	}
}

func TestRegsTextOfWrongRegs(t *testing.T) {
	wrong := []impl.Regs{{}, {P: impl.FlB}, {P: impl.FlU | impl.FlB}, regsWith("P", 255), regsWith("P", 4), regsWith("P", 256+32)}
	for _, part := range []string{"A", "X", "Y", "S", "P", "Pc"} {
		for _, v := range []int{-1, -256, 65536, 65536 + 32, math.MinInt, math.MinInt + 32, math.MaxInt} {
			wrong = append(wrong, regsWith(part, v))
		}
		if part != "Pc" {
			wrong = append(wrong, regsWith(part, 256), regsWith(part, 65535))
		}
	}
	for _, r := range wrong {
		if got := impl.RegsText(r); got != "" {
			t.Errorf("RegsText(%+v) = %q, want the empty text", r, got)
		}
	}
}

// TestNotesTakeLowestBits: of a number that is no byte, its lowest 8 bits are meant.
func TestNotesTakeLowestBits(t *testing.T) {
	for _, far := range noBytes() {
		near := byteOf(far)
		if impl.Pushed(far, true) != impl.Pushed(near, true) || impl.Pushed(far, false) != impl.Pushed(near, false) {
			t.Errorf("Pushed of %d is not that of %d", far, near)
		}
		if impl.Pulled(far) != impl.Pulled(near) || impl.FlagText(far) != impl.FlagText(near) {
			t.Errorf("Pulled or FlagText of %d is not that of %d", far, near)
		}
	}
}

// TestRegistersAnswerAlways: a panic fails the test; the same question has the same answer.
func TestRegistersAnswerAlways(t *testing.T) {
	for _, x := range oddNumbers() {
		for _, y := range oddNumbers() {
			r := impl.Regs{A: x, X: y, Y: x, S: y, P: x, Pc: y}
			if impl.RegsOk(r) || impl.RegsText(r) != "" {
				t.Errorf("%+v are right", r)
			}
			r = impl.Regs{A: x, X: y, Y: x, S: y, P: impl.FlU, Pc: y}
			if impl.RegsOk(r) != (impl.RegsText(r) != "") || impl.RegsText(r) != impl.RegsText(r) {
				t.Errorf("RegsText(%+v) = %q", r, impl.RegsText(r))
			}
		}
		for _, n := range []int{impl.Pushed(x, true), impl.Pushed(x, false), impl.Pulled(x)} {
			if n < 0 || n > 255 {
				t.Errorf("of notes %d comes %d", x, n)
			}
		}
		if got := impl.FlagText(x); len(got) != 8 || impl.ReadFlags(got) != byteOf(x) {
			t.Errorf("FlagText(%d) = %q", x, got)
		}
	}
}
