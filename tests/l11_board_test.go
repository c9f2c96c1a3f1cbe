package tests

import (
	"math"
	"runtime"
	"slices"
	"strconv"
	"strings"
	"sync"
	"testing"
	"time"

	"loop.example/g00760/impl"
)

// baseBoard is right. Its lines are quiet, its Keeper has all its clocks but nothing to copy, and its timers don't ask.
func baseBoard(t *testing.T) impl.Board {
	t.Helper()
	return impl.Board{
		Core:   baseCore(),
		Mem:    memOf(t, "0010 2003", "0200 EAEAEA", "0320 7F44", "F010 66", "FFFA 000300024003", "FFFF C3"),
		Chip:   impl.Chip{Count1: 0x0201, Latch1: 0x0403, Count2: 0x0605, Low2: 0x07, Port: 0xA5, Dir: 0x0F},
		Keeper: impl.Keeper{Waits: 3, Burst: 2, WaitLeft: 3, BurstLeft: 2, Addr: 0x3010, Sum: 0x20},
		Open:   0x99,
		Now:    1000,
	}
}

// boardOf is b, but for what a text tells: "c.Flags=60", "k.Left=05", "wires=ni", "Open=33", "0320=7F" of Ram, or a part
// of the Core. All are by sixteens, but T and Now.
func boardOf(t *testing.T, b impl.Board, text string) impl.Board {
	t.Helper()
	for word := range strings.FieldsSeq(text) {
		part, value, _ := strings.Cut(word, "=")
		v := impl.ReadHex(value)
		of, name, has := strings.Cut(part, ".")
		switch {
		case has && of == "c":
			b.Chip = chipTold(t, b.Chip, name, v)
		case has && of == "k":
			b.Keeper = keeperTold(t, b.Keeper, name, v)
		case part == "wires":
			b.Wires = wiresOf(value)
		case part == "Open":
			b.Open = v
		case part == "Now":
			// The greatest Now is a number too long for ReadDec.
			b.Now, _ = strconv.Atoi(value)
		case len(part) == 4 && impl.ReadHex(part) >= 0:
			b.Mem.Ram = pokedRam(b.Mem.Ram, impl.ReadHex(part)%1024, v)
		default:
			b.Core = coreOf(t, b.Core, word)
		}
	}
	return b
}

func chipTold(t *testing.T, c impl.Chip, name string, v int) impl.Chip {
	t.Helper()
	switch name {
	case "Live1":
		c.Live1 = v == 1
	case "Live2":
		c.Live2 = v == 1
	case "Again":
		c.Again = v == 1
	default:
		if numberParts(&c)[name] == nil {
			t.Fatalf("the test has %q", name)
		}
		c = chipWith(c, name, v)
	}
	return c
}

func keeperTold(t *testing.T, k impl.Keeper, name string, v int) impl.Keeper {
	t.Helper()
	if keeperParts(&k)[name] == nil {
		t.Fatalf("the test has %q", name)
	}
	return keeperWith(k, name, v)
}

// pinsOf reads n, i, w and r of those that are so, and behind them the Port by sixteens.
func pinsOf(s string) impl.Pins {
	letters, port, has := strings.Cut(s, " ")
	p := impl.Pins{
		Nmi:   strings.Contains(letters, "n"),
		Irq:   strings.Contains(letters, "i"),
		Wait:  strings.Contains(letters, "w"),
		Reset: strings.Contains(letters, "r"),
	}
	if has {
		p.Port = impl.ReadHex(port)
	}
	return p
}

// tickShown is a Tick as the rows below tell it: "0200rEAcFni".
func tickShown(tick impl.Tick) string {
	text := busText([]impl.Bus{{Addr: tick.Addr, Data: tick.Data, Write: tick.Write}})
	if tick.Owner < 0 || tick.Owner > 2 {
		return text + "?"
	}
	text += "cwk"[tick.Owner : tick.Owner+1]
	for i, is := range []bool{tick.Fetch, tick.Nmi, tick.Irq} {
		if is {
			text += "Fni"[i : i+1]
		}
	}
	return text
}

// tickOf is the Tick that a text of that kind tells.
func tickOf(text string) impl.Tick {
	more := text[8:]
	return impl.Tick{
		Addr: impl.ReadHex(text[:4]), Data: impl.ReadHex(text[5:7]), Write: text[4] == 'w',
		Owner: strings.Index("cwk", text[7:8]),
		Fetch: strings.Contains(more, "F"), Nmi: strings.Contains(more, "n"), Irq: strings.Contains(more, "i"),
	}
}

func checkBoard(t *testing.T, what string, got, want impl.Board) {
	t.Helper()
	checkCore(t, what, got.Core, want.Core)
	checkMem(t, what, got.Mem, want.Mem)
	checkChip(t, what, got.Chip, want.Chip)
	checkWires(t, what, got.Wires, want.Wires)
	checkKeeper(t, what, got.Keeper, want.Keeper)
	if got.Open != want.Open || got.Now != want.Now {
		t.Errorf("%s: open %d, now %d, want %d and %d", what, got.Open, got.Now, want.Open, want.Now)
	}
}

// oneClock is what is told of a clock by hand: the Board it begins with, the pins, the Tick, and what is changed by it,
// but that Now is one more, Open what was on the bus, and each count one less where nothing is told of it.
type oneClock struct {
	what   string
	before string
	pins   string
	tick   string
	after  string
}

func checkOneClock(t *testing.T, rows []oneClock) {
	t.Helper()
	for _, row := range rows {
		before := boardOf(t, baseBoard(t), row.before)
		want := before
		want.Now++
		want.Chip.Count1--
		want.Chip.Count2--
		want.Open = tickOf(row.tick).Data
		want = boardOf(t, want, row.after)
		got, tick := impl.Clock(before, pinsOf(row.pins))
		if tick != tickOf(row.tick) {
			t.Errorf("%s: %s, want %s", row.what, tickShown(tick), row.tick)
		}
		checkBoard(t, row.what, got, want)
		if !impl.BoardOk(before) || !impl.BoardOk(got) {
			t.Errorf("%s: isn't right, before %t, behind %t", row.what, impl.BoardOk(before), impl.BoardOk(got))
		}
	}
}

// TestClockOfCore: the core has the bus, and reads from each, or writes to each.
func TestClockOfCore(t *testing.T) {
	checkOneClock(t, []oneClock{
		{"fetch", "", "", "0200rEAcF", "Code=EA PC=0201 T=1"},
		{"no fetch", "Code=EA T=1", "", "0200rEAc", "T=0"},
		{"Ram", "Code=AD Hi=03 Lo=20 T=20", "", "0320r7Fc", "A=7F T=0"},
		{"the same place of Ram", "Code=AD Hi=1F Lo=20 T=20", "", "1F20r7Fc", "A=7F T=0"},
		{"Rom", "Code=AD Hi=F2 Lo=10 T=20", "", "F210r66c", "A=66 T=0"},
		{"nobody's", "Code=AD Hi=40 Lo=20 T=20", "", "4020r99c", "A=99 P=N.U..... T=0"},
		{"nobody's, low", "Code=AD Hi=31 Lo=00 T=20 Open=00", "", "3100r00c", "A=00 P=..U...Z. T=0"},
		{"port", "Code=AD Hi=20 Lo=00 T=20", "", "2000r05c", "A=05 T=0"},
		{"port with pins", "Code=AD Hi=20 Lo=10 T=20", " 5A", "2010r55c", "A=55 T=0"},
		{"count 1, low", "Code=AD Hi=2F Lo=F4 T=20 c.Flags=60", "", "2FF4r01c", "A=01 T=0 c.Flags=20"},
		{"count 1, high", "Code=AD Hi=20 Lo=05 T=20 c.Flags=60", "", "2005r02c", "A=02 T=0"},
		{"count 2, low", "Code=AD Hi=20 Lo=08 T=20 c.Flags=60", "", "2008r05c", "A=05 T=0 c.Flags=40"},
		{"flags", "Code=AD Hi=20 Lo=0D T=20 c.Flags=60 c.Mask=20", "", "200DrE0c", "A=E0 P=N.U..... T=0 wires=i"},
		{"keeper's Addr, low", "Code=AD Hi=30 Lo=00 T=20", "", "3000r10c", "A=10 T=0"},
		{"keeper's Addr, high", "Code=AD Hi=30 Lo=F1 T=20", "", "30F1r30c", "A=30 T=0"},
		{"keeper's Sum", "Code=AD Hi=30 Lo=FF T=20", "", "30FFr20c", "A=20 T=0"},
		{"keeper's Left", "Code=AD Hi=30 Lo=02 T=20 k.Left=44 k.BurstLeft=00", "", "3002r44c", "A=44 T=0 k.BurstLeft=02"},
		{"to Ram", "Code=8D Hi=03 Lo=20 T=20", "", "0320w10c", "T=0 0320=10"},
		{"to the same place", "Code=8D Hi=1C Lo=00 T=20 A=00", "", "1C00w00c", "T=0 0000=00"},
		{"to Rom", "Code=8D Hi=F0 Lo=10 T=20", "", "F010w10c", "T=0"},
		{"to nobody", "Code=8E Hi=31 Lo=20 T=20", "", "3120w05c", "T=0"},
		{"to the port", "Code=8D Hi=20 Lo=00 T=20", " 5A", "2000w10c", "T=0 c.Port=10"},
		{"to Dir", "Code=8D Hi=2F Lo=F2 T=20", "", "2FF2w10c", "T=0 c.Dir=10"},
		{"to a latch", "Code=8C Hi=20 Lo=06 T=20", "", "2006w03c", "T=0 c.Latch1=0403"},
		{"to the keeper's Addr, low", "Code=8D Hi=30 Lo=FC T=20", "", "30FCw10c", "T=0 k.Addr=3010"},
		{"to the keeper's Addr, high", "Code=8D Hi=30 Lo=01 T=20", "", "3001w10c", "T=0 k.Addr=1010"},
		{"to the keeper's Left", "Code=8D Hi=30 Lo=02 T=20", "", "3002w10c", "T=0 k.Left=10"},
		{"to the keeper's Sum", "Code=8D Hi=30 Lo=03 T=20", "", "3003w10c", "T=0 k.Sum=10"},
		{"push", "Code=48 T=2", "", "01FDw10c", "T=0 S=FC 01FD=10"},
		{"changed, first", "Code=EE Hi=30 Lo=02 Val=05 T=21", "", "3002w05c", "T=22 k.Left=05"},
		{"changed, behind", "Code=EE Hi=30 Lo=02 Val=05 T=22 k.Left=05", "", "3002w06c", "T=0 k.Left=06"},
		{"a T that NOP hasn't", "Code=EA T=6 0000=31", "", "0000r31c", ""},
		{"jammed", "Jam=1", "", "FFFFrC3c", ""},
	})
}

// TestClockOfOwners: who has the bus, what is on it then, and what is left of each one's clocks.
func TestClockOfOwners(t *testing.T) {
	checkOneClock(t, []oneClock{
		{"waits", "Code=AD Hi=03 Lo=20 T=20", "w", "0320r99w", "k.WaitLeft=02"},
		{"waits where a fetch is", "Open=00", "w", "0200r00w", "k.WaitLeft=02"},
		{"waits the last time", "Code=AD Hi=20 Lo=04 T=20 c.Flags=60 k.WaitLeft=01", "w", "2004r99w", "k.WaitLeft=00"},
		{"waits the first time of eight", "k.Waits=08 k.WaitLeft=08", "w", "0200r99w", "k.WaitLeft=07"},
		{"waits no more", "k.WaitLeft=00", "w", "0200rEAcF", "Code=EA PC=0201 T=1 k.WaitLeft=03"},
		{"never waits", "k.WaitLeft=00 k.Waits=00", "w", "0200rEAcF", "Code=EA PC=0201 T=1"},
		{"waits with none asking", "k.WaitLeft=01 k.BurstLeft=00", "", "0200rEAcF", "Code=EA PC=0201 T=1 k.WaitLeft=03 k.BurstLeft=02"},
		{"waits in a Jam", "Jam=1", "w", "FFFFr99w", "k.WaitLeft=02"},
		{"writes all the same", "Code=8D Hi=03 Lo=20 T=20 k.WaitLeft=01 k.BurstLeft=01", "w", "0320w10c", "T=0 0320=10 k.WaitLeft=03 k.BurstLeft=02"},
		{"copies", "Code=AD Hi=20 Lo=04 T=20 c.Flags=60 k.Left=05 k.Addr=0320", "", "0320r7Fk", "k.Left=04 k.Addr=0321 k.Sum=9F k.BurstLeft=01"},
		{"copies where a fetch is", "k.Left=05 k.Addr=0010", "", "0010r20k", "k.Left=04 k.Addr=0011 k.Sum=40 k.BurstLeft=01"},
		{"copies the last of a burst", "k.Left=05 k.Addr=0010 k.BurstLeft=01", "", "0010r20k", "k.Left=04 k.Addr=0011 k.Sum=40 k.BurstLeft=00"},
		{"copies the first of eight", "k.Left=FF k.Addr=0010 k.Burst=08 k.BurstLeft=08", "", "0010r20k", "k.Left=FE k.Addr=0011 k.Sum=40 k.BurstLeft=07"},
		{"copies the last byte", "k.Left=01 k.Addr=0010", "", "0010r20k", "k.Left=00 k.Addr=0011 k.Sum=40 k.BurstLeft=01"},
		{"copies ahead of waiting", "k.Left=01 k.Addr=0010", "w", "0010r20k", "k.Left=00 k.Addr=0011 k.Sum=40 k.BurstLeft=01"},
		{"copies no more", "k.Left=05 k.Addr=0010 k.BurstLeft=00", "", "0200rEAcF", "Code=EA PC=0201 T=1 k.BurstLeft=02"},
		{"copies no more, but waits", "k.Left=05 k.Addr=0010 k.BurstLeft=00", "w", "0200r99w", "k.WaitLeft=02"},
		{"never copies", "k.Left=05 k.Addr=0010 k.BurstLeft=00 k.Burst=00", "", "0200rEAcF", "Code=EA PC=0201 T=1"},
		{"copies in a Jam", "Jam=1 k.Left=05 k.Addr=0010", "", "0010r20k", "k.Left=04 k.Addr=0011 k.Sum=40 k.BurstLeft=01"},
		{"writes ahead of copies", "Code=8D Hi=03 Lo=20 T=20 k.Left=05 k.BurstLeft=01 k.WaitLeft=01", "", "0320w10c", "T=0 0320=10 k.WaitLeft=03 k.BurstLeft=02"},
		{"Sum and Addr over their ends", "k.Left=05 k.Addr=FFFF k.Sum=FF", "", "FFFFrC3k", "k.Left=04 k.Addr=0000 k.Sum=C2 k.BurstLeft=01"},
		{"copies Rom", "k.Left=05 k.Addr=F210", "", "F210r66k", "k.Left=04 k.Addr=F211 k.Sum=86 k.BurstLeft=01"},
		{"copies nobody's", "k.Left=05 k.Addr=31FF", "", "31FFr99k", "k.Left=04 k.Addr=3200 k.Sum=B9 k.BurstLeft=01"},
		{"copies the port", "k.Left=05 k.Addr=2000", " 5A", "2000r55k", "k.Left=04 k.Addr=2001 k.Sum=75 k.BurstLeft=01"},
		{"copies count 1, low", "k.Left=05 k.Addr=2004 c.Flags=60", "", "2004r01k", "k.Left=04 k.Addr=2005 k.Sum=21 k.BurstLeft=01 c.Flags=20"},
		{"copies count 1, high", "k.Left=05 k.Addr=2005 c.Flags=60", "", "2005r02k", "k.Left=04 k.Addr=2006 k.Sum=22 k.BurstLeft=01"},
		{"copies count 2, low", "k.Left=05 k.Addr=2FF8 c.Flags=60", "", "2FF8r05k", "k.Left=04 k.Addr=2FF9 k.Sum=25 k.BurstLeft=01 c.Flags=40"},
		{"copies the flags", "k.Left=05 k.Addr=200D c.Flags=40 c.Mask=40", "", "200DrC0k", "k.Left=04 k.Addr=200E k.Sum=E0 k.BurstLeft=01 wires=i"},
		{"copies its own Addr, low", "k.Left=05 k.Addr=3000", "", "3000r00k", "k.Left=04 k.Addr=3001 k.Sum=20 k.BurstLeft=01"},
		{"copies its own Addr, high", "k.Left=05 k.Addr=30FD", "", "30FDr30k", "k.Left=04 k.Addr=30FE k.Sum=50 k.BurstLeft=01"},
		{"copies its own Left", "k.Left=05 k.Addr=3002", "", "3002r05k", "k.Left=04 k.Addr=3003 k.Sum=25 k.BurstLeft=01"},
		{"copies its own Sum", "k.Left=05 k.Addr=3003", "", "3003r20k", "k.Left=04 k.Addr=3004 k.Sum=40 k.BurstLeft=01"},
		{"copies behind its own", "k.Left=05 k.Addr=30FF", "", "30FFr20k", "k.Left=04 k.Addr=3100 k.Sum=40 k.BurstLeft=01"},
	})
}

// TestClockResets: the Core is Reset ahead of what it wants, whoever has the bus then.
func TestClockResets(t *testing.T) {
	checkOneClock(t, []oneClock{
		{"where it fetches", "", "r", "0200rEAcF", "Code=00 Seq=03 T=1"},
		{"in the midst", "Code=AD Hi=20 Lo=04 T=20 c.Flags=60", "r", "0200rEAcF", "Code=00 Seq=03 T=1"},
		{"ahead of a write", "Code=8D Hi=03 Lo=20 T=20", "r", "0200rEAcF", "Code=00 Seq=03 T=1"},
		{"in a Jam", "Jam=1 Code=02", "r", "0200rEAcF", "Code=00 Seq=03 T=1 Jam=0"},
		{"in the midst of a reset", "Seq=03 Code=00 T=4", "r", "0200rEAcF", "T=1"},
		{"ahead of what comes next", "Next=02 wires=e", "r", "0200rEAcF", "Code=00 Seq=03 Next=00 T=1"},
		{"but waits", "Code=8D Hi=03 Lo=20 T=20", "wr", "0200r99w", "T=0 Next=03 k.WaitLeft=02"},
		{"but waits, in a Jam", "Jam=1 Code=02 T=1", "wr", "0200r99w", "T=0 Next=03 Jam=0 k.WaitLeft=02"},
		{"but copies", "Code=8D Hi=03 Lo=20 T=20 k.Left=05 k.Addr=0010", "r", "0010r20k", "T=0 Next=03 k.Left=04 k.Addr=0011 k.Sum=40 k.BurstLeft=01"},
		{"nothing else of it", "wires=ne c.Flags=40 c.Mask=20 k.WaitLeft=01", "nr", "0200rEAcFn", "Code=00 Seq=03 T=1 wires=ne k.WaitLeft=03"},
	})
}

// TestClockOfLines: the Core is asked with the lines as they were; what the pins tell is seen one clock later.
func TestClockOfLines(t *testing.T) {
	checkOneClock(t, []oneClock{
		{"falls now", "Code=EA T=1", "n", "0200rEAc", "T=0 wires=ne"},
		{"has fallen", "Code=EA T=1 wires=ne", "n", "0200rEAcn", "T=0 Next=02 wires=ne"},
		{"rises", "Code=EA T=1 wires=ne", "", "0200rEAcn", "T=0 Next=02 wires=e"},
		{"has been low", "Code=EA T=1 wires=n", "n", "0200rEAcn", "T=0 wires=n"},
		{"falls again", "Code=EA T=1 wires=e", "n", "0200rEAc", "T=0 Next=02 wires=ne"},
		{"low now", "Code=EA T=1", "i", "0200rEAc", "T=0 wires=i"},
		{"was low", "Code=EA T=1 wires=i", "", "0200rEAci", "T=0 Next=01 wires="},
		{"was low, but masked", "Code=EA T=1 wires=i P=..U..I..", "i", "0200rEAci", "T=0 wires=i"},
		{"both", "Code=EA T=1 wires=nei", "ni", "0200rEAcni", "T=0 Next=02 wires=nei"},
		{"the fall is taken", "Code=00 Seq=01 T=5 wires=ei", "i", "FFFAr00ci", "T=6 Val=FA Lo=00 P=..U..I.. wires=i"},
		{"the fall is taken, with the line low", "Code=00 Seq=02 T=5 wires=ne", "n", "FFFAr00cn", "T=6 Val=FA Lo=00 P=..U..I.. wires=n"},
		{"the fall is taken, and one comes", "Code=00 T=5 wires=e", "n", "FFFAr00c", "T=6 Val=FA Lo=00 P=..U..I.. wires=ne"},
		{"a fall too late", "Code=00 Seq=01 T=5", "n", "FFFEr40c", "T=6 Val=FE Lo=40 P=..U..I.. wires=ne"},
		{"not taken while it waits", "Code=00 Seq=02 T=5 wires=e", "w", "FFFAr99w", "wires=e k.WaitLeft=02"},
		{"not taken while it copies", "Code=00 Seq=02 T=5 wires=ne k.Left=01 k.Addr=0010", "", "0010r20kn", "wires=e k.Left=00 k.Addr=0011 k.Sum=40 k.BurstLeft=01"},
		{"sensed while it waits", "Code=EA T=1", "niw", "0200r99w", "wires=nei k.WaitLeft=02"},
		{"shown while it waits", "Code=EA T=1 wires=ni", "w", "0200r99wni", "wires= k.WaitLeft=02"},
		{"sensed while it copies", "Code=EA T=1 k.Left=01 k.Addr=0010", "ni", "0010r20k", "wires=nei k.Left=00 k.Addr=0011 k.Sum=40 k.BurstLeft=01"},
		{"shown while it writes", "Code=48 T=2 wires=ni", "", "01FDw10cni", "T=0 S=FC 01FD=10 Next=01 wires="},
	})
}

// TestClockOfChip: the chip has its tick behind what is on the bus, and asks in this clock yet.
func TestClockOfChip(t *testing.T) {
	checkOneClock(t, []oneClock{
		{"the flag is set", "c.Count1=0000 c.Live1=1", "", "0200rEAcF", "Code=EA PC=0201 T=1 c.Count1=FFFF c.Live1=0 c.Flags=40"},
		{"and asks", "c.Count1=0000 c.Live1=1 c.Mask=40", "", "0200rEAcF", "Code=EA PC=0201 T=1 c.Count1=FFFF c.Live1=0 c.Flags=40 wires=i"},
		{"and asks while it waits", "c.Count2=0000 c.Live2=1 c.Mask=20", "w", "0200r99w", "c.Count2=FFFF c.Live2=0 c.Flags=20 wires=i k.WaitLeft=02"},
		{"and asks while it copies", "c.Count2=0000 c.Live2=1 c.Mask=20 k.Left=01 k.Addr=0010", "", "0010r20k", "c.Count2=FFFF c.Live2=0 c.Flags=20 wires=i k.Left=00 k.Addr=0011 k.Sum=40 k.BurstLeft=01"},
		{"both ask", "c.Flags=40 c.Mask=40", "i", "0200rEAcF", "Code=EA PC=0201 T=1 wires=i"},
		{"the chip still asks", "c.Flags=20 c.Mask=20 wires=i", "", "0200rEAcFi", "Code=EA PC=0201 T=1 wires=i"},
		{"the pins alone", "c.Flags=40 c.Mask=20", "i", "0200rEAcF", "Code=EA PC=0201 T=1 wires=i"},
		{"none", "c.Flags=40 c.Mask=20 wires=i", "", "0200rEAcFi", "Code=EA PC=0201 T=1 wires="},
		{"read, then set", "Code=AD Hi=20 Lo=04 T=20 c.Count1=0000 c.Live1=1 c.Mask=40 c.Flags=40", "", "2004r00c", "A=00 P=..U...Z. T=0 c.Count1=FFFF c.Live1=0 wires=i"},
		{"read, and not set again", "Code=AD Hi=20 Lo=04 T=20 c.Count1=0001 c.Live1=1 c.Mask=40 c.Flags=40 wires=i", "", "2004r01ci", "A=01 T=0 Next=01 c.Count1=0000 c.Flags=00 wires="},
		{"flags read ahead of the tick", "Code=AD Hi=20 Lo=0D T=20 c.Count1=0000 c.Live1=1 c.Mask=40", "", "200Dr00c", "A=00 P=..U...Z. T=0 c.Count1=FFFF c.Live1=0 c.Flags=40 wires=i"},
		{"flags written off", "Code=8D A=60 Hi=20 Lo=0D T=20 c.Flags=60 c.Mask=60 wires=i", "", "200Dw60ci", "T=0 Next=01 c.Flags=00 wires="},
		{"the mask written on", "Code=8D A=C0 Hi=20 Lo=0E T=20 c.Flags=40", "", "200EwC0c", "T=0 c.Mask=40 wires=i"},
		{"the mask written off", "Code=8D A=40 Hi=20 Lo=0E T=20 c.Flags=40 c.Mask=40", "", "200Ew40c", "T=0 c.Mask=00 wires="},
		{"started", "Code=8D A=11 Hi=20 Lo=05 T=20", "", "2005w11c", "T=0 c.Latch1=1103 c.Count1=1102 c.Live1=1"},
		{"started with 0", "Code=8D A=00 Hi=20 Lo=09 T=20 c.Low2=00 c.Mask=20", "", "2009w00c", "T=0 c.Count2=FFFF c.Live2=0 c.Flags=20 wires=i"},
		{"again", "Code=8D A=40 Hi=20 Lo=0B T=20 c.Count1=0000 c.Live1=1", "", "200Bw40c", "T=0 c.Again=1 c.Count1=0403 c.Flags=40"},
	})
}

// TestClockOfNumbers: the parts of Pins and Board that are numbers, at their ends and beyond.
func TestClockOfNumbers(t *testing.T) {
	checkOneClock(t, []oneClock{
		{"the last but one", "Now=999999999", "", "0200rEAcF", "Code=EA PC=0201 T=1 Now=1000000000"},
		{"the last", "Now=1000000000", "", "0200rEAcF", "Code=EA PC=0201 T=1 Now=1000000000"},
		{"the last, while it waits", "Now=1000000000", "w", "0200r99w", "k.WaitLeft=02 Now=1000000000"},
		{"the first", "Now=0", "", "0200rEAcF", "Code=EA PC=0201 T=1 Now=1"},
		{"all bits open", "Open=FF", "w", "0200rFFw", "k.WaitLeft=02"},
	})
	for _, before := range []string{"Code=AD Hi=20 Lo=00 T=20", "k.Left=05 k.Addr=2000"} {
		b := boardOf(t, baseBoard(t), before)
		for _, n := range append(noBytes(), 0x15A, -1, 0x5A-256) {
			got, tick := impl.Clock(b, impl.Pins{Port: n})
			want, wantTick := impl.Clock(b, impl.Pins{Port: byteOf(n)})
			if got != want || tick != wantTick || tick.Data != 5+byteOf(n)/16*16 {
				t.Errorf("port %d: %s, want %s", n, tickShown(tick), tickShown(wantTick))
			}
		}
	}
}

func TestBoardOkOfParts(t *testing.T) {
	for _, b := range []impl.Board{baseBoard(t), impl.NewBoard(impl.Mem{}, 0, 0), {Core: baseCore(), Mem: rightMems()[35], Chip: fullChip(), Keeper: fullKeeper(), Open: 255, Now: 1000000000}} {
		if !impl.BoardOk(b) {
			t.Fatalf("%+v isn't right", b)
		}
		for _, wrong := range wrongBoards(b) {
			if impl.BoardOk(wrong) {
				t.Errorf("BoardOk is true: %+v", wrong)
			}
		}
		for _, w := range allWires() {
			with := b
			with.Wires = w
			if !impl.BoardOk(with) {
				t.Errorf("BoardOk with %+v is false", w)
			}
		}
		for _, m := range rightMems() {
			with := b
			with.Mem = m
			if !impl.BoardOk(with) {
				t.Errorf("BoardOk with Mem of %d and %d is false", len(m.Ram), len(m.Rom))
			}
		}
	}
	if impl.BoardOk(impl.Board{}) {
		t.Error("BoardOk of the zero Board is true")
	}
}

func TestBoardOkOfNumbers(t *testing.T) {
	for _, n := range append(noBytes(), 0, 1, 254, 255, 256, 999999999, 1000000000, 1000000001, 2000000000) {
		b := baseBoard(t)
		b.Open = n
		if got, want := impl.BoardOk(b), n >= 0 && n <= 255; got != want {
			t.Errorf("BoardOk with Open %d is %t", n, got)
		}
		b = baseBoard(t)
		b.Now = n
		if got, want := impl.BoardOk(b), n >= 0 && n <= 1000000000; got != want {
			t.Errorf("BoardOk with Now %d is %t", n, got)
		}
	}
}

// wrongBoards are b, each wrong in one part alone.
func wrongBoards(b impl.Board) []impl.Board {
	var wrong []impl.Board
	for _, c := range wrongCores() {
		with := b
		with.Core = c
		wrong = append(wrong, with)
	}
	for _, m := range wrongMems() {
		with := b
		with.Mem = m
		wrong = append(wrong, with)
	}
	for _, c := range wrongChips() {
		with := b
		with.Chip = c
		wrong = append(wrong, with)
	}
	for _, k := range wrongKeepers() {
		with := b
		with.Keeper = k
		wrong = append(wrong, with)
	}
	for _, n := range []int{-1, 256, -256, 65536, math.MinInt, math.MaxInt} {
		with := b
		with.Open = n
		wrong = append(wrong, with)
	}
	for _, n := range []int{-1, 1000000001, math.MinInt, math.MaxInt} {
		with := b
		with.Now = n
		wrong = append(wrong, with)
	}
	return wrong
}

// TestWrongBoardsStay: with all that could change a right one.
func TestWrongBoardsStay(t *testing.T) {
	bases := []string{"", "Code=8D Hi=20 Lo=05 T=20 wires=nei", "k.Left=05 k.Addr=2004 c.Flags=60 c.Mask=60"}
	for _, before := range bases {
		for _, b := range wrongBoards(boardOf(t, baseBoard(t), before)) {
			for _, p := range []impl.Pins{{}, pinsOf("niwr 5A"), pinsOf("r"), pinsOf("w")} {
				if got, tick := impl.Clock(b, p); got != b || tick != (impl.Tick{}) {
					t.Fatalf("Clock of a Board that isn't right: %s", tickShown(tick))
				}
			}
			for _, addr := range []int{0x2004, 0x2008, 0x3003, 0x0010, 0xF010, 0x4000} {
				if got, v := impl.Look(b, addr, 255); got != b || v != 0 {
					t.Fatalf("Look at %04X of a Board that isn't right tells %d", addr, v)
				}
			}
		}
	}
}

func TestNewBoardOfAll(t *testing.T) {
	numbers := append(noBytes(), 0, 1, 2, 3, 4, 5, 6, 7, 8, 9, 10)
	mems := []impl.Mem{{}, {Ram: "ab"}, {Rom: romText(512)}, {Ram: ramText(1024), Rom: romText(512)}}
	for _, m := range mems {
		for _, waits := range numbers {
			for _, burst := range []int{math.MinInt, -1, 0, 1, 5, 8, 9, 256, math.MaxInt} {
				checkNewBoard(t, m, waits, burst)
				checkNewBoard(t, m, burst, waits)
			}
		}
	}
	for _, m := range rightMems() {
		checkNewBoard(t, m, 8, 8)
	}
	for _, m := range wrongMems() {
		if got := impl.NewBoard(m, 1, 1); got != (impl.Board{}) {
			t.Errorf("a Board of a Mem of %d and %d", len(m.Ram), len(m.Rom))
		}
	}
}

func checkNewBoard(t *testing.T, m impl.Mem, waits, burst int) {
	t.Helper()
	want := impl.Board{}
	if waits >= 0 && waits <= 8 && burst >= 0 && burst <= 8 {
		want.Core.Regs.P, want.Core.Next = 32+4, 3
		want.Mem = m
		want.Keeper.Waits, want.Keeper.WaitLeft = waits, waits
		want.Keeper.Burst, want.Keeper.BurstLeft = burst, burst
	}
	what := "NewBoard with " + strconv.Itoa(waits) + " and " + strconv.Itoa(burst)
	got := impl.NewBoard(m, waits, burst)
	checkBoard(t, what, got, want)
	if impl.BoardOk(got) != (want.Core.Next == 3) {
		t.Errorf("%s: right is %t", what, impl.BoardOk(got))
	}
}

// shownTicks are those of so many clocks with the same pins.
func shownTicks(b impl.Board, clocks int, pins string) (impl.Board, string) {
	var words []string
	for range clocks {
		var tick impl.Tick
		b, tick = impl.Clock(b, pinsOf(pins))
		words = append(words, tickShown(tick))
	}
	return b, strings.Join(words, " ")
}

// longClocks are told with a Board that is new, or that is behind some others: each text is of clocks with the same pins.
type longClocks struct {
	pins string
	want string
}

func checkLong(t *testing.T, what string, b impl.Board, list []longClocks) impl.Board {
	t.Helper()
	for i, some := range list {
		var got string
		b, got = shownTicks(b, len(strings.Fields(some.want)), some.pins)
		if want := strings.Join(strings.Fields(some.want), " "); got != want {
			t.Errorf("%s, part %d:\n got %s\nwant %s", what, i, got, want)
		}
		if !impl.BoardOk(b) {
			t.Fatalf("%s, part %d: isn't right, %+v", what, i, b)
		}
	}
	return b
}

// programBoard is a new Board behind its seven clocks, with a program at 0200.
func programBoard(t *testing.T, waits, burst int, mem ...string) impl.Board {
	t.Helper()
	b := impl.NewBoard(memOf(t, append([]string{"FFFA 0003", "FFFC 0002", "FFFE 4003"}, mem...)...), waits, burst)
	b, _ = shownTicks(b, 7, "")
	if !impl.Fetches(b.Core) || b.Core.Regs.Pc != 0x200 || b.Now != 7 {
		t.Fatalf("begins at %04X", b.Core.Regs.Pc)
	}
	return b
}

func TestNewBoardBegins(t *testing.T) {
	m := memOf(t, "0000 55", "0200 EA", "FFFC 0002")
	b := checkLong(t, "begins", impl.NewBoard(m, 0, 0), []longClocks{
		{"", "0000r55cF 0000r55c 0100r00c 01FFr00c 01FEr00c FFFCr00c FFFDr02c"},
	})
	want := impl.NewBoard(m, 0, 0)
	want.Core.Regs = impl.Regs{S: 253, P: 36, Pc: 512}
	want.Core.Seq, want.Core.Next, want.Core.Val = 3, 0, 0xFC
	want.Chip.Count1, want.Chip.Count2 = 65536-7, 65536-7
	want.Open, want.Now = 2, 7
	checkBoard(t, "begins", b, want)
	checkLong(t, "waits", impl.NewBoard(m, 2, 0), []longClocks{
		{"w", "0000r00w 0000r00w 0000r55cF 0000r55w 0000r55w 0000r55c 0100r55w 0100r55w 0100r00c"},
		{"", "01FFr00c 01FEr00c FFFCr00c FFFDr02c 0200rEAcF"},
	})
	// Ram that is too short to have the stack stays so: at a reset nothing is written.
	b, _ = shownTicks(impl.NewBoard(impl.Mem{Ram: "abc", Rom: romText(512)}, 0, 0), 7, "")
	if b.Mem.Ram != "abc" || b.Core.Regs.Pc != int(romText(512)[508])+256*int(romText(512)[509]) {
		t.Errorf("begins at %04X with Ram of %d", b.Core.Regs.Pc, len(b.Mem.Ram))
	}
}

// TestLookOfOwners: both ends of what each owner has.
func TestLookOfOwners(t *testing.T) {
	before := "0000=01 0001=02 03FE=03 03FF=04 c.Flags=60 c.Mask=60 k.Left=05 k.Addr=1234"
	rows := []struct{ addr, v, after string }{
		{"0000", "01", ""}, {"0001", "02", ""}, {"03FF", "04", ""}, {"0400", "01", ""}, {"1FFE", "03", ""}, {"1FFF", "04", ""},
		{"2000", "55", ""}, {"2001", "00", ""}, {"2002", "0F", ""}, {"2003", "00", ""}, {"2004", "01", "c.Flags=20"}, {"2005", "02", ""},
		{"2006", "03", ""}, {"2007", "04", ""}, {"2008", "05", "c.Flags=40"}, {"2009", "06", ""}, {"200A", "00", ""}, {"200B", "00", ""},
		{"200C", "00", ""}, {"200D", "E0", ""}, {"200E", "E0", ""}, {"200F", "00", ""}, {"2010", "55", ""}, {"2FF4", "01", "c.Flags=20"},
		{"2FFE", "E0", ""}, {"2FFF", "00", ""},
		{"3000", "34", ""}, {"3001", "12", ""}, {"3002", "05", ""}, {"3003", "20", ""}, {"3004", "34", ""}, {"30FE", "05", ""}, {"30FF", "20", ""},
		{"3100", "99", ""}, {"3FFF", "99", ""}, {"4000", "99", ""}, {"EFFF", "99", ""},
		{"F000", "00", ""}, {"F010", "66", ""}, {"F210", "66", ""}, {"FFFB", "03", ""}, {"FFFD", "02", ""}, {"FFFF", "C3", ""},
	}
	b := boardOf(t, baseBoard(t), before)
	for _, row := range rows {
		addr := impl.ReadHex(row.addr)
		for _, number := range []int{addr, addr + 65536, addr - 65536, addr + 1<<40, addr + math.MinInt} {
			got, v := impl.Look(b, number, 0x5A)
			if v != impl.ReadHex(row.v) {
				t.Errorf("Look at %s (%d) tells %02X, want %s", row.addr, number, v, row.v)
			}
			checkBoard(t, "Look at "+row.addr, got, boardOf(t, b, row.after))
		}
	}
}

// lookedAt is the right Board behind a read of an address, and the byte, told in another way than the program.
func lookedAt(b impl.Board, addr, pins int) (impl.Board, int) {
	switch ownerOf(addr) {
	case impl.WhChip:
		c, v := readOf(b.Chip, addr%16, byteOf(pins))
		b.Chip = c
		return b, v
	case impl.WhCopy:
		return b, registersOf(b.Keeper)[addr%4]
	}
	return b, told(b.Mem, addr, b.Open)
}

func TestLookOfAllAddresses(t *testing.T) {
	b := baseBoard(t)
	b.Mem = impl.Mem{Ram: ramText(1024), Rom: romText(512)}
	b.Chip, b.Keeper = someChip(), someKeeper()
	for addr := range 65536 {
		got, v := impl.Look(b, addr, 0xC3)
		want, wantV := lookedAt(b, addr, 0xC3)
		if got != want || v != wantV {
			t.Fatalf("Look at %04X tells %d, want %d, with %+v", addr, v, wantV, got.Chip)
		}
	}
}

// TestLookOfNoBytes: numbers for the address and for the pins, of Boards of all sizes of Mem, of all parts of the Board.
func TestLookOfNoBytes(t *testing.T) {
	for _, b := range []impl.Board{baseBoard(t), {Core: baseCore(), Chip: fullChip(), Keeper: fullKeeper()}, {Core: baseCore(), Mem: impl.Mem{Ram: "abc", Rom: "xyz"}, Open: 255, Now: 1000000000, Wires: wiresOf("nei")}} {
		for _, pins := range append(noBytes(), 0x5A, 0xA5) {
			for _, addr := range []int{0x2000, 0x2FF0, 0x2004, 0x3002, 0x0001, 0xF001, 0x5000} {
				got, v := impl.Look(b, addr, pins)
				want, wantV := lookedAt(b, addr, pins)
				if got != want || v != wantV {
					t.Errorf("Look at %04X with %d tells %d, want %d", addr, pins, v, wantV)
				}
			}
		}
		for _, addr := range noAddresses() {
			got, v := impl.Look(b, addr, 0x5A)
			want, wantV := lookedAt(b, addressOf(addr), 0x5A)
			if got != want || v != wantV {
				t.Errorf("Look at %d tells %d, want %d", addr, v, wantV)
			}
		}
	}
}

// TestBoardCopies: a program tells the keeper what to copy. It has the bus from the clock behind the write on, at reads.
func TestBoardCopies(t *testing.T) {
	b := programBoard(t, 0, 2, "0200 A9038D023048EAEA", "0010 A1B2C3")
	b.Keeper.Addr = 0x0010
	b = checkLong(t, "copies", b, []longClocks{
		{"", "0200rA9cF 0201r03c 0202r8DcF 0203r02c 0204r30c 3002w03c"},
		{"", "0010rA1k 0011rB2k 0205r48cF 0012rC3k 0206rEAc 01FDw03c 0206rEAcF"},
	})
	if k := b.Keeper; k.Left != 0 || k.Addr != 0x13 || k.Sum != (0xA1+0xB2+0xC3)%256 || k.BurstLeft != 2 {
		t.Errorf("copied %+v", k)
	}
	// Of what it copies nothing is seen by the Core but that Open is another byte.
	b = programBoard(t, 0, 1, "0200 EEFF30AD0040", "0340 40")
	b.Keeper.Addr, b.Keeper.Left = 0x0340, 1
	b = checkLong(t, "open", b, []longClocks{
		{"", "0340r40k 0200rEEcF 0201rFFc 0202r30c 30FFr40c 30FFw40c 30FFw41c 0203rADcF 0204r00c 0205r40c 4000r40c"},
	})
	if b.Keeper.Sum != 0x41 || b.Core.Regs.A != 0x40 {
		t.Errorf("Sum %02X, A %02X", b.Keeper.Sum, b.Core.Regs.A)
	}
}

// TestBoardIsInterrupted: a fall is seen one clock later, so too late for the instruction whose last clock it falls at.
func TestBoardIsInterrupted(t *testing.T) {
	mem := []string{"0200 EAEAEAEA", "0300 40", "0340 40"}
	checkLong(t, "in the last clock but one", programBoard(t, 0, 0, mem...), []longClocks{
		{"n", "0200rEAcF"}, {"", "0201rEAcn 0201rEAcF 0201rEAc 01FDw02c 01FCw01c 01FBw24c FFFAr00c FFFBr03c 0300r40cF"},
	})
	checkLong(t, "in the last clock", programBoard(t, 0, 0, mem...), []longClocks{
		{"", "0200rEAcF"}, {"n", "0201rEAc"}, {"", "0201rEAcFn 0202rEAc 0202rEAcF 0202rEAc 01FDw02c"},
	})
	checkLong(t, "held up in the last clock", programBoard(t, 1, 0, mem...), []longClocks{
		{"", "0200rEAcF"}, {"nw", "0201rEAw"}, {"", "0201rEAcn 0201rEAcF 0201rEAc 01FDw02c"},
	})
	// The line stays low: there is one fall, so one interrupt.
	checkLong(t, "once", programBoard(t, 0, 0, mem...), []longClocks{
		{"n", "0200rEAcF 0201rEAcn 0201rEAcFn 0201rEAcn 01FDw02cn 01FCw01cn 01FBw24cn FFFAr00cn FFFBr03cn 0300r40cFn 0301r00cn 01FAr00cn 01FBr24cn 01FCr01cn 01FDr02cn 0201rEAcFn 0202rEAcn 0202rEAcFn"},
	})
	b := programBoard(t, 0, 0, mem...)
	b.Core.Regs.P = 0x20
	checkLong(t, "low until it rises", b, []longClocks{
		{"i", "0200rEAcF 0201rEAci 0201rEAcFi 0201rEAci 01FDw02ci 01FCw01ci 01FBw20ci FFFEr40ci FFFFr03ci 0340r40cFi 0341r00ci 01FAr00ci 01FBr20ci 01FCr01ci 01FDr02ci"},
		{"", "0201rEAcFi 0201rEAc 01FDw02c 01FCw01c 01FBw20c FFFEr40c FFFFr03c 0340r40cF 0341r00c 01FAr00c 01FBr20c 01FCr01c 01FDr02c 0201rEAcF 0202rEAc 0202rEAcF 0203rEAc"},
	})
}

// TestBoardTimers: the chip has its tick at the clock of the write, too, so that it asks as many clocks behind its start
// as it was told; the Core has them whether it is held up or not.
func TestBoardTimers(t *testing.T) {
	for _, told := range []int{0, 1, 2, 3, 10, 255, 256, 300} {
		for _, at := range []string{"0520", "0920"} {
			for _, pins := range []string{"", "w"} {
				b := programBoard(t, 3, 0, "0200 8D"+at+"EA4C0302")
				b.Core.Regs.A, b.Chip.Latch1, b.Chip.Low2, b.Chip.Mask = told/256, told%256, told%256, 96
				clocks := -1
				for range 1000 {
					var tick impl.Tick
					b, tick = impl.Clock(b, pinsOf(pins))
					if tick.Write || clocks >= 0 {
						clocks++
					}
					if b.Wires.Irq {
						break
					}
				}
				if clocks != told {
					t.Errorf("told %d at %s, with pins %q: asks %d clocks behind", told, at, pins, clocks)
				}
			}
		}
	}
}

// boardBehind is the right Board behind a clock, and the Tick, by what the tests of the other layers have beside the program.
func boardBehind(b impl.Board, p impl.Pins, list map[int]listed) (impl.Board, impl.Tick) {
	if p.Reset {
		b.Core.T, b.Core.Next, b.Core.Jam = 0, impl.TaReset, false
	}
	wires := b.Wires
	_, _, want := modelClock(b.Core, 0, wires, list)
	tick := impl.Tick{Addr: want.Addr, Owner: ownerHas(b.Keeper, p.Wait, !want.Write), Nmi: wires.Nmi, Irq: wires.Irq}
	switch tick.Owner {
	case impl.OwCopy:
		tick.Addr = b.Keeper.Addr
		b, tick.Data = lookedAt(b, tick.Addr, p.Port)
		b.Keeper.Addr, b.Keeper.Left, b.Keeper.Sum = addressOf(b.Keeper.Addr+1), b.Keeper.Left-1, byteOf(b.Keeper.Sum+tick.Data)
		b.Keeper.BurstLeft--
	case impl.OwWait:
		tick.Data = b.Open
		b.Keeper.WaitLeft--
	default:
		tick.Fetch = b.Core.T == 0 && !b.Core.Jam
		tick.Write = want.Write
		if want.Write {
			tick.Data = want.Data
			b = putBy(b, want)
		} else {
			b, tick.Data = lookedAt(b, tick.Addr, p.Port)
		}
		b.Core, wires, _ = modelClock(b.Core, tick.Data, wires, list)
		b.Keeper.WaitLeft, b.Keeper.BurstLeft = b.Keeper.Waits, b.Keeper.Burst
	}
	b.Chip = ticked(b.Chip)
	asks := hasBit(b.Chip.Flags, 64) && hasBit(b.Chip.Mask, 64) || hasBit(b.Chip.Flags, 32) && hasBit(b.Chip.Mask, 32)
	b.Wires = impl.Wires{Nmi: p.Nmi, Edge: wires.Edge || p.Nmi && !tick.Nmi, Irq: p.Irq || asks}
	b.Open = tick.Data
	if b.Now < 1000000000 {
		b.Now++
	}
	return b, tick
}

// putBy is the Board behind a write by the Core.
func putBy(b impl.Board, bus impl.Bus) impl.Board {
	switch ownerOf(bus.Addr) {
	case impl.WhChip:
		b.Chip = writtenTo(b.Chip, bus.Addr%16, bus.Data)
	case impl.WhCopy:
		b.Keeper = writtenKeeper(b.Keeper, bus.Addr%4, bus.Data)
	case impl.WhRam:
		b.Mem.Ram = pokedRam(b.Mem.Ram, bus.Addr%1024, bus.Data)
	}
	return b
}

// mixedProgram has more bytes that are instructions, and more that lead to chip and keeper, than others.
func mixedProgram(size int, next func(int) int, list []listed) string {
	highs := []int{0x00, 0x02, 0x20, 0x20, 0x2F, 0x30, 0x30, 0x31, 0x40, 0xF0}
	text := make([]byte, size)
	for i := range text {
		switch next(5) {
		case 0, 1, 2:
			text[i] = byte(list[next(len(list))].code)
		case 3:
			text[i] = byte(highs[next(len(highs))])
		default:
			text[i] = byte(next(16))
		}
	}
	return string(text)
}

// mixedBoard is right, and begins at some instruction.
func mixedBoard(next func(int) int, list []listed) impl.Board {
	b := impl.Board{Open: next(256), Now: []int{0, 1000000000 - next(40), next(1000000)}[next(3)]}
	b.Core = impl.Core{Seq: next(4), Code: next(256), Lo: next(256), Hi: next(256), Val: next(256), Cross: next(2) == 1, Next: []int{0, 0, 0, 1, 2, 3}[next(6)]}
	b.Core.Regs = impl.Regs{A: next(256), X: next(256), Y: next(256), S: next(256), P: impl.Pulled(next(256)), Pc: []int{next(1024), 0xF000 + next(4096)}[next(2)]}
	b.Mem = impl.Mem{Ram: mixedProgram([]int{1024, 1024, 300, 0}[next(4)], next, list), Rom: mixedProgram(512, next, list)}
	b.Wires = allWires()[next(8)]
	b.Chip = impl.Chip{
		Count1: next(40), Latch1: next(30), Live1: next(2) == 1, Again: next(2) == 1, Count2: next(40), Low2: next(40), Live2: next(2) == 1,
		Port: next(256), Dir: next(256), Flags: next(4) * 32, Mask: next(4) * 32,
	}
	k := impl.Keeper{Waits: next(9), Burst: next(9), Addr: []int{next(65536), 0x2000 + next(16), 0x3000 + next(16), 0xFFF0 + next(16)}[next(4)], Left: []int{0, next(20), next(256)}[next(3)], Sum: next(256)}
	k.WaitLeft, k.BurstLeft = next(k.Waits+1), next(k.Burst+1)
	b.Keeper = k
	return b
}

func mixedPins(next func(int) int) impl.Pins {
	return impl.Pins{Nmi: next(6) == 0, Irq: next(6) == 0, Wait: next(3) == 0, Reset: next(40) == 0, Port: next(1024) - 512}
}

// TestBoardOfMixedClocks: each clock of many mixed Boards with mixed pins, against the second model.
func TestBoardOfMixedClocks(t *testing.T) {
	list, byCode := allListed(t), listByCode(t)
	for seed := range 600 {
		next := numbersFrom(110000 + seed)
		b := mixedBoard(next, list)
		for clock := range 120 {
			p := mixedPins(next)
			want, wantTick := boardBehind(b, p, byCode)
			got, tick := impl.Clock(b, p)
			if got != want || tick != wantTick {
				what := "seed " + strconv.Itoa(seed) + ", clock " + strconv.Itoa(clock)
				checkBoard(t, what, got, want)
				t.Fatalf("%s with %+v: %s, want %s", what, p, tickShown(tick), tickShown(wantTick))
			}
			if !impl.BoardOk(got) {
				t.Fatalf("seed %d, clock %d: isn't right, %+v", seed, clock, got)
			}
			b = got
		}
	}
}

// TestCoreOfBoardIsAlone: fed with the bytes of its own clocks, and with the lines as they were then, a Core alone is
// always what the Board's is, and has put the same on the bus.
func TestCoreOfBoardIsAlone(t *testing.T) {
	list := allListed(t)
	for seed := range 400 {
		next := numbersFrom(220000 + seed)
		b := mixedBoard(next, list)
		alone, wires := b.Core, b.Wires
		for clock := range 150 {
			p := mixedPins(next)
			var tick impl.Tick
			b, tick = impl.Clock(b, p)
			if p.Reset {
				alone = impl.Reset(alone)
			}
			if tick.Nmi != wires.Nmi || tick.Irq != wires.Irq {
				t.Fatalf("seed %d, clock %d: %s with %+v", seed, clock, tickShown(tick), wires)
			}
			if bus := impl.Want(alone, wires); tick.Owner == impl.OwCore {
				if tick.Addr != bus.Addr || tick.Write != bus.Write || tick.Write && tick.Data != bus.Data || tick.Fetch != impl.Fetches(alone) {
					t.Fatalf("seed %d, clock %d: %s, but alone it wants %+v", seed, clock, tickShown(tick), bus)
				}
				alone, wires = impl.Fed(alone, tick.Data, wires)
			} else if bus.Write || tick.Write || tick.Fetch {
				t.Fatalf("seed %d, clock %d: %s, but alone it wants %+v", seed, clock, tickShown(tick), bus)
			}
			wires = impl.Sense(wires, p.Nmi, p.Irq || impl.Asks(b.Chip))
			if b.Core != alone || b.Wires != wires {
				t.Fatalf("seed %d, clock %d: %+v with %+v, alone %+v with %+v", seed, clock, b.Core, b.Wires, alone, wires)
			}
		}
	}
}

// heldUp is a program that adds up eight bytes by tens, with calls, the stack and shifts on the way, and begins anew.
func heldUp() []string {
	begin := "A2FF" + "9A" + "A208" + "F8" + "18"
	around := "BD1103" + "200003" + "7510" + "9510" + "CA" + "D0F3"
	end := "A910" + "48" + "28" + "6C1003"
	called := "48" + "7D1103" + "C510" + "6612" + "EE4003" + "68" + "60"
	return []string{"0200 " + begin + around + end, "0300 " + called, "0310 0002" + "1327465861728495"}
}

// TestHeldUpDoesTheSame: one Board is never held up, others by all there is. What their Cores put on the bus is the same,
// at however many clocks, and so is what is left of it in memory.
func TestHeldUpDoesTheSame(t *testing.T) {
	mem := heldUp()
	free, freeBus := coreClocks(programBoard(t, 0, 0, mem...), 700, func() impl.Pins { return impl.Pins{} })
	if free.Now != 707 || free.Core.Jam {
		t.Fatalf("the program ends at %d, %+v", free.Now, free.Core)
	}
	for waits := range 9 {
		for burst := range 9 {
			next := numbersFrom(waits*9 + burst)
			b := programBoard(t, waits, burst, mem...)
			b.Keeper.Left, b.Keeper.Addr = 255, 0x0040
			b, bus := coreClocks(b, 700, func() impl.Pins { return impl.Pins{Wait: next(2) == 0} })
			if !slices.Equal(bus, freeBus) || b.Core != free.Core || b.Mem != free.Mem || waits+burst > 0 && b.Now <= free.Now {
				t.Errorf("%d waits, bursts of %d: done at %d, %+v, want %+v", waits, burst, b.Now, b.Core, free.Core)
			}
		}
	}
}

// coreClocks are so many of the Core's own ones, and what it put on the bus.
func coreClocks(b impl.Board, clocks int, pins func() impl.Pins) (impl.Board, []impl.Bus) {
	var bus []impl.Bus
	for len(bus) < clocks {
		var tick impl.Tick
		b, tick = impl.Clock(b, pins())
		if tick.Owner == impl.OwCore {
			bus = append(bus, impl.Bus{Addr: tick.Addr, Data: tick.Data, Write: tick.Write})
		}
	}
	return b, bus
}

// TestBoardsAtOnce: nothing is kept, and nothing hangs on what else goes on; no goroutine is left behind.
func TestBoardsAtOnce(t *testing.T) {
	list := allListed(t)
	ahead := runtime.NumGoroutine()
	var boards [8]impl.Board
	var group sync.WaitGroup
	for i := range boards {
		group.Add(1)
		go func() {
			defer group.Done()
			next := numbersFrom(330000 + i%2)
			b := mixedBoard(next, list)
			for range 300 {
				b, _ = impl.Clock(b, mixedPins(next))
				b, _ = impl.Look(b, next(65536), next(256))
				impl.Clock(impl.Board{}, impl.Pins{})
				impl.Look(impl.Board{}, 0, 0)
			}
			boards[i] = b
		}()
	}
	group.Wait()
	for i := range boards {
		if boards[i] != boards[i%2] {
			t.Errorf("board %d is another one than board %d", i, i%2)
		}
	}
	checkNoneLeft(t, ahead)
}

// checkNoneLeft: goroutines that are at their ends may take a moment to be gone.
func checkNoneLeft(t *testing.T, ahead int) {
	t.Helper()
	for range 200 {
		if runtime.NumGoroutine() <= ahead {
			return
		}
		time.Sleep(time.Millisecond)
	}
	t.Errorf("%d goroutines, %d ahead", runtime.NumGoroutine(), ahead)
}

// TestBoardAnswersAlways: a panic fails the test; the same question has the same answer.
func TestBoardAnswersAlways(t *testing.T) {
	for _, n := range oddNumbers() {
		boards := []impl.Board{{}, baseBoard(t)}
		for i := range 7 {
			b := baseBoard(t)
			*[]*int{&b.Open, &b.Now, &b.Core.T, &b.Core.Regs.Pc, &b.Chip.Count1, &b.Keeper.Addr, &b.Keeper.WaitLeft}[i] = n
			boards = append(boards, b)
		}
		for _, b := range boards {
			for _, p := range []impl.Pins{{Port: n}, {Nmi: true, Irq: true, Wait: true, Reset: true, Port: n}} {
				got, tick := impl.Clock(b, p)
				again, tickAgain := impl.Clock(b, p)
				if got != again || tick != tickAgain || impl.BoardOk(got) != impl.BoardOk(b) {
					t.Errorf("Clock with port %d: %s and %s", n, tickShown(tick), tickShown(tickAgain))
				}
			}
			for _, addr := range oddNumbers() {
				got, v := impl.Look(b, addr, n)
				again, vAgain := impl.Look(b, addr, n)
				if got != again || v != vAgain || v < 0 || v > 255 || impl.BoardOk(got) != impl.BoardOk(b) {
					t.Errorf("Look at %d with %d tells %d", addr, n, v)
				}
			}
			if m := (impl.Mem{}); impl.NewBoard(m, n, n) != impl.NewBoard(m, n, n) {
				t.Errorf("NewBoard with %d", n)
			}
		}
	}
}
