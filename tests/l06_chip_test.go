package tests

import (
	"math"
	"testing"

	"loop.example/g00760/impl"
)

// someChip is right, and no two of its parts are alike.
func someChip() impl.Chip {
	return impl.Chip{
		Count1: 0x1234, Latch1: 0x5678, Live1: true, Again: true,
		Count2: 0x9ABC, Low2: 0xDE, Live2: true,
		Port: 0xA5, Dir: 0x0F, Flags: 96, Mask: 64,
	}
}

// fullChip has every number as great as it may be, and every flag.
func fullChip() impl.Chip {
	return impl.Chip{
		Count1: 65535, Latch1: 65535, Live1: true, Again: true,
		Count2: 65535, Low2: 255, Live2: true,
		Port: 255, Dir: 255, Flags: 96, Mask: 96,
	}
}

// numberParts are the parts of a Chip that are numbers, by name.
func numberParts(c *impl.Chip) map[string]*int {
	return map[string]*int{
		"Count1": &c.Count1, "Latch1": &c.Latch1, "Count2": &c.Count2,
		"Low2": &c.Low2, "Port": &c.Port, "Dir": &c.Dir, "Flags": &c.Flags, "Mask": &c.Mask,
	}
}

// chipWith is c but for one part, which is v.
func chipWith(c impl.Chip, part string, v int) impl.Chip {
	*numberParts(&c)[part] = v
	return c
}

// mayBe tells whether a right Chip may have v as that part.
func mayBe(part string, v int) bool {
	switch part {
	case "Count1", "Latch1", "Count2":
		return v >= 0 && v <= 65535
	case "Flags", "Mask":
		return v == 0 || v == 32 || v == 64 || v == 96
	}
	return v >= 0 && v <= 255
}

func partNumbers() []int {
	numbers := append(noBytes(), someBytes()...)
	return append(numbers, 32, 33, 63, 64, 65, 95, 97, 224, -32, -64, -96, 65534, 65535, 65536, 65537, 1<<32, 1<<32+64)
}

// wrongChips are each wrong in one part alone, by one where that can be.
func wrongChips() []impl.Chip {
	wrong := []impl.Chip{
		chipWith(fullChip(), "Count1", 65536), chipWith(fullChip(), "Latch1", 65536), chipWith(fullChip(), "Count2", 65536),
		chipWith(fullChip(), "Low2", 256), chipWith(fullChip(), "Port", 256), chipWith(fullChip(), "Dir", 256),
		chipWith(fullChip(), "Flags", 97), chipWith(fullChip(), "Mask", 97), chipWith(fullChip(), "Flags", 95), chipWith(fullChip(), "Mask", 95),
	}
	for part := range numberParts(&impl.Chip{}) {
		wrong = append(wrong, chipWith(impl.Chip{}, part, -1), chipWith(someChip(), part, -1))
		for _, v := range partNumbers() {
			if !mayBe(part, v) {
				wrong = append(wrong, chipWith(someChip(), part, v))
			}
		}
	}
	return wrong
}

// timerChips are of all counts that matter, with and without Live, Again and Flags, both timers at once.
func timerChips() []impl.Chip {
	counts := []int{0, 1, 2, 255, 256, 257, 32768, 65534, 65535}
	var chips []impl.Chip
	for _, count1 := range counts {
		for _, count2 := range counts {
			for _, latch := range []int{0, 1, 300, 65535} {
				for bits := range 128 {
					chips = append(chips, impl.Chip{
						Count1: count1, Latch1: latch, Live1: bits&1 != 0, Again: bits&2 != 0,
						Count2: count2, Low2: count2 % 251, Live2: bits&4 != 0,
						Port: count1 % 256, Dir: bits, Flags: (bits >> 3 & 3) * 32, Mask: (bits >> 5 & 3) * 32,
					})
				}
			}
		}
	}
	return chips
}

func hasBit(n, bit int) bool { return n/bit%2 == 1 }

// ticked tells the chapter's words on a clock in another way than the program: by each part.
func ticked(c impl.Chip) impl.Chip {
	over1, over2 := c.Count1 == 0, c.Count2 == 0
	next := c
	next.Count1 = (c.Count1 + 65535) % 65536
	if over1 && c.Again {
		next.Count1 = c.Latch1
	}
	next.Count2 = (c.Count2 + 65535) % 65536
	next.Live1 = c.Live1 && (!over1 || c.Again)
	next.Live2 = c.Live2 && !over2
	if over1 && c.Live1 && !hasBit(c.Flags, 64) {
		next.Flags += 64
	}
	if over2 && c.Live2 && !hasBit(c.Flags, 32) {
		next.Flags += 32
	}
	return next
}

// withoutFlag is c with a bit of Flags cleared.
func withoutFlag(c impl.Chip, bit int) impl.Chip {
	if hasBit(c.Flags, bit) {
		c.Flags -= bit
	}
	return c
}

// readOf is the right Chip behind a read of a register 0 to 15, and the byte, of a byte pins.
func readOf(c impl.Chip, reg int, pins int) (impl.Chip, int) {
	again := 0
	if c.Again {
		again = 64
	}
	asks := 0
	if hasBit(c.Flags, 64) && hasBit(c.Mask, 64) || hasBit(c.Flags, 32) && hasBit(c.Mask, 32) {
		asks = 128
	}
	port := 0
	for bit := 1; bit <= 128; bit *= 2 {
		if hasBit(c.Dir, bit) && hasBit(c.Port, bit) || !hasBit(c.Dir, bit) && hasBit(pins, bit) {
			port += bit
		}
	}
	values := [16]int{
		0: port, 2: c.Dir, 4: c.Count1 % 256, 5: c.Count1 / 256, 6: c.Latch1 % 256, 7: c.Latch1 / 256,
		8: c.Count2 % 256, 9: c.Count2 / 256, 11: again, 13: c.Flags + asks, 14: c.Mask + 128,
	}
	switch reg {
	case 4:
		return withoutFlag(c, 64), values[reg]
	case 8:
		return withoutFlag(c, 32), values[reg]
	}
	return c, values[reg]
}

// writtenTo is the right Chip behind a write of a byte v to a register 0 to 15.
func writtenTo(c impl.Chip, reg int, v int) impl.Chip {
	switch reg {
	case 0:
		c.Port = v
	case 2:
		c.Dir = v
	case 4, 6:
		c.Latch1 = c.Latch1/256*256 + v
	case 5:
		c.Latch1 = v*256 + c.Latch1%256
		c.Count1, c.Live1 = c.Latch1, true
		return withoutFlag(c, 64)
	case 7:
		c.Latch1 = v*256 + c.Latch1%256
		return withoutFlag(c, 64)
	case 8:
		c.Low2 = v
	case 9:
		c.Count2, c.Live2 = v*256+c.Low2, true
		return withoutFlag(c, 32)
	case 11:
		c.Again = hasBit(v, 64)
	case 13:
		c.Flags = bitsLeft(c.Flags, v)
	case 14:
		c.Mask = bitsLeft(c.Mask, v)
		for _, bit := range []int{64, 32} {
			if hasBit(v, 128) && hasBit(v, bit) {
				c.Mask += bit
			}
		}
	}
	return c
}

// bitsLeft are those of the bits 64 and 32 of n that v hasn't.
func bitsLeft(n int, v int) int {
	left := 0
	for _, bit := range []int{64, 32} {
		if hasBit(n, bit) && !hasBit(v, bit) {
			left += bit
		}
	}
	return left
}

func checkChip(t *testing.T, what string, got, want impl.Chip) {
	t.Helper()
	if got != want {
		t.Errorf("%s:\n got %+v\nwant %+v", what, got, want)
	}
}

// ticks is the Chip behind n clocks.
func ticks(c impl.Chip, n int) impl.Chip {
	for range n {
		c = impl.TickChip(c)
	}
	return c
}

// started1 and started2 are Chips whose timer is started by writes alone, told n.
func started1(c impl.Chip, n int) impl.Chip {
	return impl.WriteChip(impl.WriteChip(c, 4, n%256), 5, n/256)
}

func started2(c impl.Chip, n int) impl.Chip {
	return impl.WriteChip(impl.WriteChip(c, 8, n%256), 9, n/256)
}

func TestChipOkOfParts(t *testing.T) {
	for _, c := range []impl.Chip{{}, someChip(), fullChip()} {
		if !impl.ChipOk(c) {
			t.Errorf("ChipOk(%+v) is false", c)
		}
		for part := range numberParts(&impl.Chip{}) {
			for v := -300; v <= 600; v++ {
				if got := impl.ChipOk(chipWith(c, part, v)); got != mayBe(part, v) {
					t.Errorf("ChipOk with %s = %d is %t", part, v, got)
				}
			}
			for _, v := range partNumbers() {
				if got := impl.ChipOk(chipWith(c, part, v)); got != mayBe(part, v) {
					t.Errorf("ChipOk with %s = %d is %t", part, v, got)
				}
			}
		}
	}
}

// TestChipOkOfFlags: whether a timer is Live, or counts again, makes no Chip wrong; nor do Flags without a Mask.
func TestChipOkOfFlags(t *testing.T) {
	for _, c := range timerChips() {
		if !impl.ChipOk(c) {
			t.Fatalf("ChipOk(%+v) is false", c)
		}
	}
}

func TestChipOfWrongParts(t *testing.T) {
	for _, c := range wrongChips() {
		if impl.ChipOk(c) {
			t.Errorf("ChipOk(%+v) is true", c)
		}
		checkChip(t, "TickChip of one that isn't right", impl.TickChip(c), c)
		for reg := -17; reg <= 33; reg++ {
			got, v := impl.ReadChip(c, reg, 255)
			checkChip(t, "ReadChip of one that isn't right", got, c)
			if v != 0 {
				t.Errorf("ReadChip(%+v, %d) = %d, want 0", c, reg, v)
			}
			checkChip(t, "WriteChip of one that isn't right", impl.WriteChip(c, reg, 255), c)
			checkChip(t, "WriteChip of one that isn't right", impl.WriteChip(c, reg, 0), c)
		}
	}
}

func TestTickOfFirst(t *testing.T) {
	rows := []struct{ c, want impl.Chip }{
		{impl.Chip{Count1: 2, Live1: true}, impl.Chip{Count1: 1, Live1: true, Count2: 65535}},
		{impl.Chip{Count1: 1, Live1: true}, impl.Chip{Count1: 0, Live1: true, Count2: 65535}},
		{impl.Chip{Count1: 0, Live1: true}, impl.Chip{Count1: 65535, Count2: 65535, Flags: 64}},
		{impl.Chip{Count1: 0, Live1: true, Latch1: 7}, impl.Chip{Count1: 65535, Latch1: 7, Count2: 65535, Flags: 64}},
		{impl.Chip{Count1: 0, Live1: true, Latch1: 7, Again: true}, impl.Chip{Count1: 7, Latch1: 7, Live1: true, Again: true, Count2: 65535, Flags: 64}},
		{impl.Chip{Count1: 0, Live1: true, Again: true}, impl.Chip{Count1: 0, Live1: true, Again: true, Count2: 65535, Flags: 64}},
		{impl.Chip{Count1: 0, Latch1: 7, Again: true}, impl.Chip{Count1: 7, Latch1: 7, Again: true, Count2: 65535}},
		{impl.Chip{Count1: 0, Latch1: 7}, impl.Chip{Count1: 65535, Latch1: 7, Count2: 65535}},
		{impl.Chip{Count1: 1, Latch1: 7, Live1: true, Again: true}, impl.Chip{Latch1: 7, Live1: true, Again: true, Count2: 65535}},
		{impl.Chip{Count1: 65535, Live1: true}, impl.Chip{Count1: 65534, Live1: true, Count2: 65535}},
		{impl.Chip{Count1: 65535, Again: true}, impl.Chip{Count1: 65534, Again: true, Count2: 65535}},
		{impl.Chip{Count1: 0, Live1: true, Flags: 96}, impl.Chip{Count1: 65535, Count2: 65535, Flags: 96}},
	}
	for _, row := range rows {
		checkChip(t, "TickChip", impl.TickChip(row.c), row.want)
	}
}

func TestTickOfSecond(t *testing.T) {
	rows := []struct{ c, want impl.Chip }{
		{impl.Chip{Count2: 2, Live2: true}, impl.Chip{Count1: 65535, Count2: 1, Live2: true}},
		{impl.Chip{Count2: 1, Live2: true}, impl.Chip{Count1: 65535, Live2: true}},
		{impl.Chip{Count2: 0, Live2: true}, impl.Chip{Count1: 65535, Count2: 65535, Flags: 32}},
		{impl.Chip{Count2: 0, Live2: true, Low2: 9}, impl.Chip{Count1: 65535, Count2: 65535, Low2: 9, Flags: 32}},
		{impl.Chip{Count2: 0, Live2: true, Again: true, Latch1: 5}, impl.Chip{Count1: 5, Latch1: 5, Again: true, Count2: 65535, Flags: 32}},
		{impl.Chip{Count2: 0, Low2: 9}, impl.Chip{Count1: 65535, Count2: 65535, Low2: 9}},
		{impl.Chip{Count2: 65535, Live2: true}, impl.Chip{Count1: 65535, Count2: 65534, Live2: true}},
		{impl.Chip{Count2: 256, Low2: 1}, impl.Chip{Count1: 65535, Count2: 255, Low2: 1}},
		{impl.Chip{Live1: true, Live2: true}, impl.Chip{Count1: 65535, Count2: 65535, Flags: 96}},
	}
	for _, row := range rows {
		checkChip(t, "TickChip", impl.TickChip(row.c), row.want)
	}
}

func TestTickOfManyChips(t *testing.T) {
	for _, c := range timerChips() {
		if got, want := impl.TickChip(c), ticked(c); got != want {
			t.Fatalf("TickChip(%+v)\n got %+v\nwant %+v", c, got, want)
		}
	}
}

// TestTickOfAllCounts goes through all counts of both timers, in all ways that these can count.
func TestTickOfAllCounts(t *testing.T) {
	for bits := range 8 {
		c := impl.Chip{Latch1: 0x0102, Live1: bits&1 != 0, Again: bits&2 != 0, Live2: bits&4 != 0}
		for count := range 65536 {
			c.Count1, c.Count2 = count, 65535-count
			if got, want := impl.TickChip(c), ticked(c); got != want {
				t.Fatalf("TickChip(%+v)\n got %+v\nwant %+v", c, got, want)
			}
		}
	}
}

// TestFirstAsksOnce: behind as many clocks as it was told the count is at its end, and what the next
// clock sees there sets the flag; one clock fewer, the count isn't there. It never sets it again.
func TestFirstAsksOnce(t *testing.T) {
	for _, n := range []int{0, 1, 2, 3, 10, 255, 256, 257, 1000, 65534, 65535} {
		c := started1(impl.Chip{Mask: 64}, n)
		checkChip(t, "started", c, impl.Chip{Count1: n, Latch1: n, Live1: true, Mask: 64})
		if n > 0 {
			if c := ticks(c, n-1); c.Count1 != 1 || c.Flags != 0 || !c.Live1 || impl.Asks(c) {
				t.Errorf("told %d, one clock fewer: %+v", n, c)
			}
		}
		c = ticks(c, n)
		if c.Count1 != 0 || c.Flags != 0 || !c.Live1 || impl.Asks(c) {
			t.Errorf("told %d, behind these clocks: %+v", n, c)
		}
		c = ticks(c, 1)
		if c.Count1 != 65535 || c.Flags != 64 || c.Live1 || !impl.Asks(c) {
			t.Errorf("told %d, one clock more: %+v", n, c)
		}
		c = impl.WriteChip(c, 13, 64)
		if c = ticks(c, 131073); c.Flags != 0 || c.Live1 || impl.Asks(c) {
			t.Errorf("told %d, a flag comes again: %+v", n, c)
		}
	}
}

func TestSecondAsksOnce(t *testing.T) {
	for _, n := range []int{0, 1, 2, 3, 10, 255, 256, 257, 1000, 65534, 65535} {
		c := started2(impl.Chip{Mask: 32, Again: true}, n)
		checkChip(t, "started", c, impl.Chip{Count2: n, Low2: n % 256, Live2: true, Mask: 32, Again: true})
		if n > 0 {
			if c := ticks(c, n-1); c.Count2 != 1 || c.Flags != 0 || !c.Live2 || impl.Asks(c) {
				t.Errorf("told %d, one clock fewer: %+v", n, c)
			}
		}
		c = ticks(c, n)
		if c.Count2 != 0 || c.Flags != 0 || !c.Live2 || impl.Asks(c) {
			t.Errorf("told %d, behind these clocks: %+v", n, c)
		}
		c = ticks(c, 1)
		if c.Count2 != 65535 || c.Flags != 32 || c.Live2 || !impl.Asks(c) {
			t.Errorf("told %d, one clock more: %+v", n, c)
		}
		c, _ = impl.ReadChip(c, 8, 0)
		if c = ticks(c, 131073); c.Flags != 0 || c.Live2 || impl.Asks(c) {
			t.Errorf("told %d, a flag comes again: %+v", n, c)
		}
	}
}

// TestFirstAsksAgain: where Again, the flag comes behind each round, each of one clock more than it was told.
func TestFirstAsksAgain(t *testing.T) {
	for _, n := range []int{0, 1, 2, 7, 255, 256, 300} {
		c := started1(impl.WriteChip(impl.Chip{Mask: 64}, 11, 64), n)
		for clock := 1; clock <= 5*(n+1); clock++ {
			c = impl.TickChip(c)
			if want := clock%(n+1) == 0; impl.Asks(c) != want || !c.Live1 {
				t.Fatalf("told %d, behind %d clocks: %+v", n, clock, c)
			}
			c, _ = impl.ReadChip(c, 4, 0)
		}
		c = ticks(impl.WriteChip(c, 11, 191), n+1)
		if !impl.Asks(c) || c.Live1 || c.Again || c.Count1 != 65535 {
			t.Errorf("told %d, no more again: %+v", n, c)
		}
	}
}

// TestLatchOfNought: with Latch1 0 and Again the count stays 0, and each clock sets the flag.
func TestLatchOfNought(t *testing.T) {
	c := started1(impl.Chip{Again: true, Mask: 64, Count1: 300}, 0)
	for clock := range 10 {
		c = impl.TickChip(c)
		if c.Count1 != 0 || c.Flags != 64 || !c.Live1 {
			t.Fatalf("behind clock %d: %+v", clock, c)
		}
		c = impl.WriteChip(c, 13, 64)
	}
	if c = ticks(impl.WriteChip(c, 4, 2), 1); c.Count1 != 2 || c.Flags != 64 {
		t.Errorf("with another latch: %+v", c)
	}
}

// TestTimersCountByThemselves: both at once do what each does alone.
func TestTimersCountByThemselves(t *testing.T) {
	for _, again := range []int{0, 64} {
		for _, n := range [][2]int{{0, 0}, {0, 3}, {3, 0}, {5, 5}, {5, 6}, {6, 5}, {300, 2}, {2, 300}} {
			one := started1(impl.WriteChip(impl.Chip{}, 11, again), n[0])
			two := started2(impl.Chip{}, n[1])
			both := started2(one, n[1])
			for range 700 {
				one, two, both = impl.TickChip(one), impl.TickChip(two), impl.TickChip(both)
				want := one
				want.Count2, want.Low2, want.Live2, want.Flags = two.Count2, two.Low2, two.Live2, one.Flags+two.Flags
				if both != want {
					t.Fatalf("told %v:\n got %+v\nwant %+v", n, both, want)
				}
			}
		}
	}
}

// TestTimerIsStartedAnew: a start while it counts, and one with a flag that waits.
func TestTimerIsStartedAnew(t *testing.T) {
	c := ticks(started2(started1(impl.Chip{}, 10), 10), 5)
	c = started1(c, 10)
	if c = ticks(c, 6); c.Flags != 32 || c.Count1 != 4 || !c.Live1 || c.Live2 {
		t.Errorf("the first, started anew: %+v", c)
	}
	if c = ticks(c, 5); c.Flags != 96 || c.Live1 {
		t.Errorf("both are over: %+v", c)
	}
	if c = started1(c, 3); c.Flags != 32 || !c.Live1 || c.Live2 || c.Count1 != 3 {
		t.Errorf("the first again: %+v", c)
	}
	if c = started2(c, 4); c.Flags != 0 || !c.Live1 || !c.Live2 || c.Count2 != 4 || c.Count1 != 3 {
		t.Errorf("the second again: %+v", c)
	}
}

// TestLatchIsNoStart: a latch that is written counts only from the next round on, and starts nothing.
func TestLatchIsNoStart(t *testing.T) {
	c := impl.WriteChip(impl.WriteChip(impl.Chip{Count1: 3, Flags: 96}, 6, 9), 7, 1)
	checkChip(t, "a latch", c, impl.Chip{Count1: 3, Latch1: 265, Flags: 32})
	if c = ticks(c, 4); c.Count1 != 65535 || c.Flags != 32 {
		t.Errorf("a timer that wasn't started: %+v", c)
	}
	c = impl.WriteChip(impl.WriteChip(started1(impl.Chip{Again: true}, 3), 6, 9), 7, 1)
	if c = ticks(c, 4); c.Count1 != 265 || c.Flags != 64 || !c.Live1 {
		t.Errorf("a latch for the next round: %+v", c)
	}
	c = impl.WriteChip(impl.Chip{Count2: 3, Flags: 96}, 8, 9)
	checkChip(t, "a low", c, impl.Chip{Count2: 3, Low2: 9, Flags: 96})
}

func TestReadOfRegisters(t *testing.T) {
	values := [16]int{0: 0xA5&15 | 0x30, 2: 0x0F, 4: 0x34, 5: 0x12, 6: 0x78, 7: 0x56, 8: 0xBC, 9: 0x9A, 11: 64, 13: 224, 14: 192}
	for reg, want := range values {
		behind := someChip()
		switch reg {
		case 4:
			behind.Flags = 32
		case 8:
			behind.Flags = 64
		}
		got, v := impl.ReadChip(someChip(), reg, 0x3C)
		checkChip(t, "behind a read of "+impl.DecText(reg), got, behind)
		if v != want {
			t.Errorf("ReadChip at %d = %d, want %d", reg, v, want)
		}
	}
}

func TestReadOfManyChips(t *testing.T) {
	for i, c := range timerChips() {
		reg, pins := i%16, i*7%256
		for _, reg := range []int{reg, 4, 8, 13} {
			got, v := impl.ReadChip(c, reg, pins)
			if want, value := readOf(c, reg, pins); got != want || v != value {
				t.Fatalf("ReadChip(%+v, %d, %d)\n got %+v %d\nwant %+v %d", c, reg, pins, got, v, want, value)
			}
		}
	}
	for reg := range 16 {
		for _, c := range []impl.Chip{{}, someChip(), fullChip()} {
			got, v := impl.ReadChip(c, reg, 90)
			if want, value := readOf(c, reg, 90); got != want || v != value {
				t.Errorf("ReadChip(%+v, %d, 90)\n got %+v %d\nwant %+v %d", c, reg, got, v, want, value)
			}
		}
	}
}

// TestReadOfPort: of each bit either the port or the pin is told, by its own bit of Dir.
func TestReadOfPort(t *testing.T) {
	for dir := range 256 {
		for _, port := range append(someBytes(), dir) {
			for _, pins := range someBytes() {
				c := impl.Chip{Port: port, Dir: dir, Flags: 96}
				got, v := impl.ReadChip(c, 0, pins)
				if _, want := readOf(c, 0, pins); v != want || got != c {
					t.Fatalf("port %d, dir %d, pins %d: %d, want %d", port, dir, pins, v, want)
				}
			}
		}
	}
}

// TestReadTellsWhetherItAsks: bit 128 of 13 is that of Asks, of 14 it is always set; neither read clears anything.
func TestReadTellsWhetherItAsks(t *testing.T) {
	for flags := 0; flags <= 96; flags += 32 {
		for mask := 0; mask <= 96; mask += 32 {
			c := impl.Chip{Flags: flags, Mask: mask}
			want := flags
			if hasBit(flags, 64) && hasBit(mask, 64) || hasBit(flags, 32) && hasBit(mask, 32) {
				want += 128
			}
			if got, v := impl.ReadChip(c, 13, 0); got != c || v != want || impl.Asks(c) != (want >= 128) {
				t.Errorf("Flags %d and Mask %d at 13: %d, want %d", flags, mask, v, want)
			}
			if got, v := impl.ReadChip(c, 14, 0); got != c || v != mask+128 {
				t.Errorf("Flags %d and Mask %d at 14: %d, want %d", flags, mask, v, mask+128)
			}
		}
	}
}

// TestReadOfAgain: neither a latch nor a port makes bit 64 of 11.
func TestReadOfAgain(t *testing.T) {
	full := fullChip()
	full.Again = false
	for want, c := range map[int]impl.Chip{0: full, 64: {Again: true}} {
		if got, v := impl.ReadChip(c, 11, 255); got != c || v != want {
			t.Errorf("ReadChip at 11 = %d, want %d", v, want)
		}
	}
}

func TestWriteOfRegisters(t *testing.T) {
	for reg := range 16 {
		for v := range 256 {
			for _, c := range []impl.Chip{{}, {Flags: 96}, {Mask: 32, Latch1: 255, Low2: 255}, someChip(), fullChip()} {
				if got, want := impl.WriteChip(c, reg, v), writtenTo(c, reg, v); got != want {
					t.Fatalf("WriteChip(%+v, %d, %d)\n got %+v\nwant %+v", c, reg, v, got, want)
				}
			}
		}
	}
}

func TestWriteOfSome(t *testing.T) {
	rows := []struct {
		reg, v int
		change func(*impl.Chip)
	}{
		{0, 7, func(c *impl.Chip) { c.Port = 7 }},
		{1, 7, func(c *impl.Chip) {}},
		{2, 7, func(c *impl.Chip) { c.Dir = 7 }},
		{3, 7, func(c *impl.Chip) {}},
		{4, 7, func(c *impl.Chip) { c.Latch1 = 0x5607 }},
		{5, 7, func(c *impl.Chip) { c.Latch1, c.Count1, c.Flags = 0x0778, 0x0778, 32 }},
		{6, 7, func(c *impl.Chip) { c.Latch1 = 0x5607 }},
		{7, 7, func(c *impl.Chip) { c.Latch1, c.Flags = 0x0778, 32 }},
		{8, 7, func(c *impl.Chip) { c.Low2 = 7 }},
		{9, 7, func(c *impl.Chip) { c.Count2, c.Flags = 0x07DE, 64 }},
		{10, 7, func(c *impl.Chip) {}},
		{11, 191, func(c *impl.Chip) { c.Again = false }},
		{11, 64, func(c *impl.Chip) {}},
		{12, 7, func(c *impl.Chip) {}},
		{13, 159, func(c *impl.Chip) {}},
		{13, 32, func(c *impl.Chip) { c.Flags = 64 }},
		{13, 255, func(c *impl.Chip) { c.Flags = 0 }},
		{14, 64, func(c *impl.Chip) { c.Mask = 0 }},
		{14, 127, func(c *impl.Chip) { c.Mask = 0 }},
		{14, 160, func(c *impl.Chip) { c.Mask = 96 }},
		{14, 255, func(c *impl.Chip) { c.Mask = 96 }},
		{14, 159, func(c *impl.Chip) {}},
		{14, 31, func(c *impl.Chip) {}},
		{15, 7, func(c *impl.Chip) {}},
	}
	for _, row := range rows {
		want := someChip()
		row.change(&want)
		checkChip(t, "WriteChip at "+impl.DecText(row.reg), impl.WriteChip(someChip(), row.reg, row.v), want)
	}
}

func TestWriteStartsWhatIsNotLive(t *testing.T) {
	still := impl.Chip{Latch1: 3, Low2: 4, Flags: 96}
	checkChip(t, "the first", impl.WriteChip(still, 5, 1), impl.Chip{Count1: 259, Latch1: 259, Live1: true, Low2: 4, Flags: 32})
	checkChip(t, "the second", impl.WriteChip(still, 9, 1), impl.Chip{Latch1: 3, Count2: 260, Live2: true, Low2: 4, Flags: 64})
	checkChip(t, "a latch", impl.WriteChip(still, 7, 1), impl.Chip{Latch1: 259, Low2: 4, Flags: 32})
	checkChip(t, "a low", impl.WriteChip(still, 8, 1), impl.Chip{Latch1: 3, Low2: 1, Flags: 96})
}

// TestWriteOfMaskAndFlags holds all bytes against all Masks and Flags.
func TestWriteOfMaskAndFlags(t *testing.T) {
	for v := range 256 {
		for flags := 0; flags <= 96; flags += 32 {
			for mask := 0; mask <= 96; mask += 32 {
				c := impl.Chip{Flags: flags, Mask: mask}
				for _, reg := range []int{13, 14} {
					if got, want := impl.WriteChip(c, reg, v), writtenTo(c, reg, v); got != want {
						t.Fatalf("WriteChip of %d at %d\n got %+v\nwant %+v", v, reg, got, want)
					}
				}
			}
		}
	}
}

// TestRegistersAndBytesByLowestBits: of a register the lowest four bits count, of pins and v the lowest eight.
func TestRegistersAndBytesByLowestBits(t *testing.T) {
	regs := append(noBytes(), 16, 17, 20, 21, 24, 29, 30, 31, 32, -3, -11, -12, -16, -17)
	for _, c := range []impl.Chip{{Flags: 96}, someChip(), fullChip()} {
		for _, reg := range regs {
			near := ((reg % 16) + 16) % 16
			for _, v := range []int{0, 77, 255, -1, -256, 256, 300, math.MaxInt, math.MinInt} {
				got, value := impl.ReadChip(c, reg, v)
				if want, wanted := readOf(c, near, byteOf(v)); got != want || value != wanted {
					t.Errorf("ReadChip(%+v, %d, %d)\n got %+v %d\nwant %+v %d", c, reg, v, got, value, want, wanted)
				}
				checkChip(t, "WriteChip at "+impl.DecText(reg), impl.WriteChip(c, reg, v), writtenTo(c, near, byteOf(v)))
			}
		}
		for _, v := range noBytes() {
			for reg := range 16 {
				_, value := impl.ReadChip(c, reg, v)
				if _, want := readOf(c, reg, byteOf(v)); value != want {
					t.Errorf("ReadChip at %d with pins %d = %d, want %d", reg, v, value, want)
				}
				checkChip(t, "WriteChip of "+impl.DecText(v), impl.WriteChip(c, reg, v), writtenTo(c, reg, byteOf(v)))
			}
		}
	}
}

// TestAsksOfBits: any bit that both have counts, whether the Chip is right or not.
func TestAsksOfBits(t *testing.T) {
	rows := []struct {
		flags, mask int
		want        bool
	}{
		{0, 0, false}, {64, 0, false}, {0, 64, false}, {64, 64, true}, {32, 32, true}, {64, 32, false}, {32, 64, false},
		{96, 32, true}, {96, 64, true}, {64, 96, true}, {32, 96, true}, {96, 96, true}, {96, 0, false}, {0, 96, false},
		{1, 1, true}, {1, 2, false}, {256, 256, true}, {-1, 1, true}, {-1, 0, false}, {math.MinInt, math.MaxInt, false}, {math.MinInt, -1, true},
	}
	for _, row := range rows {
		if got := impl.Asks(impl.Chip{Flags: row.flags, Mask: row.mask}); got != row.want {
			t.Errorf("Asks with Flags %d and Mask %d is %t", row.flags, row.mask, got)
		}
	}
	for _, flags := range []int{0, 32, 64, 96} {
		c := chipWith(fullChip(), "Flags", flags)
		if got := impl.Asks(c); got != (flags != 0) {
			t.Errorf("Asks(%+v) is %t", c, got)
		}
	}
}

// TestRightChipStaysRight goes a long way of clocks, reads and writes, beside the chapter's words.
func TestRightChipStaysRight(t *testing.T) {
	for _, c := range []impl.Chip{{}, someChip(), fullChip()} {
		want, step := c, 1
		for range 50000 {
			step = (step*75 + 74) % 65537
			reg, v := step/7%16, step/128%256
			switch step % 4 {
			case 0:
				c, want = impl.WriteChip(c, reg, v), writtenTo(want, reg, v)
			case 1:
				c, _ = impl.ReadChip(c, reg, v)
				want, _ = readOf(want, reg, v)
			default:
				c, want = impl.TickChip(c), ticked(want)
			}
			if c != want || !impl.ChipOk(c) {
				t.Fatalf("behind step %d (%t)\n got %+v\nwant %+v", step, impl.ChipOk(c), c, want)
			}
		}
	}
}

// TestChipAnswersAlways: a panic fails the test; the same question has the same answer, what is right stays so,
// and what isn't stays as it is.
func TestChipAnswersAlways(t *testing.T) {
	for part := range numberParts(&impl.Chip{}) {
		for _, n := range oddNumbers() {
			c := chipWith(someChip(), part, n)
			kept, right := c, impl.ChipOk(c)
			for _, x := range oddNumbers() {
				read, v := impl.ReadChip(c, x, n)
				again, w := impl.ReadChip(c, x, n)
				if read != again || v != w || v < 0 || v > 255 || impl.ChipOk(read) != right {
					t.Errorf("ReadChip(%+v, %d, %d) = %+v, %d", c, x, n, read, v)
				}
				written := impl.WriteChip(c, x, n)
				if written != impl.WriteChip(c, x, n) || impl.ChipOk(written) != right {
					t.Errorf("WriteChip(%+v, %d, %d) = %+v", c, x, n, written)
				}
			}
			next := impl.TickChip(c)
			if next != impl.TickChip(c) || impl.ChipOk(next) != right || impl.Asks(c) != impl.Asks(c) {
				t.Errorf("TickChip(%+v) = %+v", c, next)
			}
			checkChip(t, "the argument", c, kept)
		}
	}
}
