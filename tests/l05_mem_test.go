package tests

import (
	"math"
	"strconv"
	"strings"
	"testing"

	"loop.example/g00760/impl"
)

// ownerOf is told from borders alone, of a number of 0 .. 65535.
func ownerOf(addr int) int {
	switch {
	case addr < 0x2000:
		return impl.WhRam
	case addr < 0x3000:
		return impl.WhChip
	case addr < 0x3100:
		return impl.WhCopy
	case addr < 0xF000:
		return impl.WhOpen
	}
	return impl.WhRom
}

func addressOf(n int) int { return ((n % 65536) + 65536) % 65536 }

// someAddresses are those at which an owner or a round of places begins or ends, and some within.
func someAddresses() []int {
	return []int{
		0, 1, 2, 255, 256, 511, 512, 513, 1022, 1023, 1024, 1025, 1535, 1536, 2047, 2048, 4095, 4096, 7167, 7168, 8190, 8191,
		0x2000, 0x2001, 0x2FFF, 0x3000, 0x3001, 0x30FF, 0x3100, 0x3101, 0x3FFF, 0x4000, 0x8000, 0xA234, 0xEFFE, 0xEFFF,
		0xF000, 0xF001, 0xF1FF, 0xF200, 0xF3FF, 0xF400, 0xFDFF, 0xFE00, 0xFFFA, 0xFFFE, 0xFFFF,
	}
}

// noAddresses are numbers beyond the addresses, far and near, of all owners.
func noAddresses() []int {
	numbers := []int{-1, -2, -255, -256, -65535, -65536, -65537, 65536, 65537, 131071, 131072}
	for _, addr := range someAddresses() {
		numbers = append(numbers, addr+65536, addr-65536, addr+1<<40, addr-1<<40, addr+math.MinInt, math.MaxInt-addr)
	}
	return append(numbers, oddNumbers()...)
}

// ramText and romText have other bytes at places that are a page or less apart, none of them 0.
func ramText(size int) string {
	text := make([]byte, size)
	for i := range text {
		text[i] = byte(1 + (i*7+i/256*40)%255)
	}
	return string(text)
}

func romText(size int) string {
	text := make([]byte, size)
	for i := range text {
		text[i] = byte(1 + (i*11+i/256*90+3)%255)
	}
	return string(text)
}

// rightMems are as short, and as long, as they may be, and between.
func rightMems() []impl.Mem {
	var mems []impl.Mem
	for _, ram := range []int{0, 1, 3, 256, 1023, 1024} {
		for _, rom := range []int{0, 1, 5, 256, 511, 512} {
			mems = append(mems, impl.Mem{Ram: ramText(ram), Rom: romText(rom)})
		}
	}
	return mems
}

func wrongMems() []impl.Mem {
	return []impl.Mem{
		{Ram: ramText(1025)}, {Rom: romText(513)}, {Ram: ramText(1025), Rom: romText(513)},
		{Ram: ramText(1025), Rom: romText(512)}, {Ram: ramText(1024), Rom: romText(513)}, {Ram: "abc", Rom: romText(1024)},
		{Ram: ramText(8192)}, {Ram: ramText(65536), Rom: romText(4096)}, {Rom: romText(65536)},
	}
}

// standsAt is the byte of Ram or Rom at an address of theirs.
func standsAt(m impl.Mem, addr int) int {
	text, place := m.Ram, addr%1024
	if ownerOf(addr) == impl.WhRom {
		text, place = m.Rom, addr%512
	}
	if place < len(text) {
		return int(text[place])
	}
	return 0
}

// told is the byte at an address, whosever it is.
func told(m impl.Mem, addr, open int) int {
	if owner := ownerOf(addr); owner == impl.WhRam || owner == impl.WhRom {
		return standsAt(m, addr)
	}
	return byteOf(open)
}

// pokedRam is Ram, as long as it may be, with v at a place.
func pokedRam(ram string, place int, v int) string {
	whole := ram + strings.Repeat("\x00", 1024-len(ram))
	return whole[:place] + string([]byte{byte(v)}) + whole[place+1:]
}

// checkMem tells of long texts no more than where they are not alike.
func checkMem(t *testing.T, what string, got, want impl.Mem) {
	t.Helper()
	if len(got.Ram) != len(want.Ram) || len(got.Rom) != len(want.Rom) {
		t.Errorf("%s: sizes %d and %d, want %d and %d", what, len(got.Ram), len(got.Rom), len(want.Ram), len(want.Rom))
		return
	}
	for i := range len(got.Ram) {
		if got.Ram[i] != want.Ram[i] {
			t.Errorf("%s: byte %d of Ram is %d, want %d", what, i, got.Ram[i], want.Ram[i])
			return
		}
	}
	if got.Rom != want.Rom {
		t.Errorf("%s: Rom is another one", what)
	}
}

func TestOwnersAreTheirNumbers(t *testing.T) {
	owners := [...]int{impl.WhRam, impl.WhChip, impl.WhCopy, impl.WhOpen, impl.WhRom}
	if owners != [...]int{0, 1, 2, 3, 4} || impl.RamSize != 1024 || impl.RomSize != 512 {
		t.Errorf("owners are %v, sizes %d and %d", owners, impl.RamSize, impl.RomSize)
	}
}

func TestWhereOfBorders(t *testing.T) {
	rows := []struct{ first, last, want int }{
		{0, 8191, impl.WhRam}, {8192, 12287, impl.WhChip}, {12288, 12543, impl.WhCopy},
		{12544, 61439, impl.WhOpen}, {61440, 65535, impl.WhRom},
	}
	for _, row := range rows {
		for _, addr := range []int{row.first, row.first + 1, (row.first + row.last) / 2, row.last - 1, row.last} {
			if got := impl.Where(addr); got != row.want {
				t.Errorf("Where(%d) = %d, want %d", addr, got, row.want)
			}
		}
	}
}

func TestWhereOfAllAddresses(t *testing.T) {
	many := [5]int{}
	for addr := range 65536 {
		got := impl.Where(addr)
		if got != ownerOf(addr) {
			t.Fatalf("Where(%d) = %d, want %d", addr, got, ownerOf(addr))
		}
		many[got]++
	}
	if many != [5]int{8192, 4096, 256, 48896, 4096} {
		t.Errorf("of addresses the owners have %v", many)
	}
}

func TestWhereTakesLowestBits(t *testing.T) {
	rows := [][2]int{
		{-1, impl.WhRom}, {-4096, impl.WhRom}, {-4097, impl.WhOpen}, {65536, impl.WhRam}, {65536 + 8192, impl.WhChip},
		{65536 + 12288, impl.WhCopy}, {-65536, impl.WhRam}, {math.MinInt, impl.WhRam}, {math.MaxInt, impl.WhRom},
		{1<<32 + 12543, impl.WhCopy}, {1<<32 + 12544, impl.WhOpen}, {math.MinInt + 8192, impl.WhChip},
	}
	for _, row := range rows {
		if got := impl.Where(row[0]); got != row[1] {
			t.Errorf("Where(%d) = %d, want %d", row[0], got, row[1])
		}
	}
	for _, far := range noAddresses() {
		if got, want := impl.Where(far), ownerOf(addressOf(far)); got != want {
			t.Errorf("Where(%d) = %d, want %d", far, got, want)
		}
	}
}

func TestMemOkOfSizes(t *testing.T) {
	for _, ram := range []int{0, 1, 512, 513, 1023, 1024, 1025, 2048, 8192, 65536} {
		for _, rom := range []int{0, 1, 511, 512, 513, 1024, 4096, 65536} {
			m := impl.Mem{Ram: ramText(ram), Rom: romText(rom)}
			if got, want := impl.MemOk(m), ram <= 1024 && rom <= 512; got != want {
				t.Errorf("MemOk of %d bytes of Ram and %d of Rom is %t", ram, rom, got)
			}
		}
	}
	if !impl.MemOk(impl.Mem{}) {
		t.Error("an empty Mem is not right")
	}
}

// TestMemOkCountsBytes: signs of several bytes count as these; any bytes are right.
func TestMemOkCountsBytes(t *testing.T) {
	fits := impl.Mem{Ram: strings.Repeat("\u2026", 341), Rom: strings.Repeat("\xff", 512)}
	over := impl.Mem{Ram: strings.Repeat("\u2026", 342)}
	if !impl.MemOk(fits) || impl.MemOk(over) || impl.MemOk(impl.Mem{Rom: strings.Repeat("\u00b7", 257)}) {
		t.Error("MemOk counts something else than bytes")
	}
}

func TestPeekOfSome(t *testing.T) {
	m := impl.Mem{Ram: "abc", Rom: "xyz"}
	rows := []struct{ addr, open, want int }{
		{0, 200, 'a'}, {1, 200, 'b'}, {2, 200, 'c'}, {3, 200, 0}, {1023, 200, 0}, {1024, 200, 'a'}, {2050, 200, 'c'},
		{7168, 200, 'a'}, {7171, 200, 0}, {8191, 200, 0}, {8192, 200, 200}, {12288, 200, 200}, {12543, 0, 0}, {12544, 255, 255},
		{61439, 7, 7}, {61440, 200, 'x'}, {61442, 200, 'z'}, {61443, 200, 0}, {61951, 200, 0}, {61952, 200, 'x'},
		{65024, 200, 'x'}, {65026, 200, 'z'}, {65027, 200, 0}, {65535, 200, 0}, {65536, 200, 'a'}, {-65536, 200, 'a'},
		{-512, 200, 'x'}, {-510, 200, 'z'}, {-1, 200, 0}, {65536 + 8192, 200, 200}, {math.MinInt, 200, 'a'},
		{math.MinInt + 1025, 200, 'b'}, {math.MaxInt, 200, 0}, {math.MaxInt - 511, 200, 'x'}, {math.MaxInt - 4096, 200, 200},
		{20000, 456, 200}, {20000, 256, 0}, {20000, -1, 255}, {20000, -256, 0}, {20000, math.MaxInt, 255}, {20000, math.MinInt, 0},
		{0, -1, 'a'}, {3, -1, 0}, {61443, -1, 0},
	}
	for _, row := range rows {
		if got := impl.Peek(m, row.addr, row.open); got != row.want {
			t.Errorf("Peek at %d with open %d = %d, want %d", row.addr, row.open, got, row.want)
		}
	}
}

// TestPeekOfAllAddresses asks Mems of all sizes at all addresses, many of which are the same place.
func TestPeekOfAllAddresses(t *testing.T) {
	for _, m := range rightMems() {
		for addr := range 65536 {
			if got, want := impl.Peek(m, addr, 77), told(m, addr, 77); got != want {
				t.Fatalf("Peek(%d bytes, %d bytes) at %d = %d, want %d", len(m.Ram), len(m.Rom), addr, got, want)
			}
		}
	}
}

func TestPeekOfOpen(t *testing.T) {
	m := impl.Mem{Ram: ramText(1024), Rom: romText(512)}
	for _, open := range append(noBytes(), someBytes()...) {
		for _, addr := range someAddresses() {
			if got, want := impl.Peek(m, addr, open), told(m, addr, open); got != want {
				t.Errorf("Peek at %d with open %d = %d, want %d", addr, open, got, want)
			}
			if got, want := impl.Peek(impl.Mem{}, addr, open), told(impl.Mem{}, addr, open); got != want {
				t.Errorf("Peek of nothing at %d with open %d = %d, want %d", addr, open, got, want)
			}
		}
	}
}

func TestPeekTakesLowestBits(t *testing.T) {
	for _, m := range rightMems() {
		for _, far := range noAddresses() {
			if got, want := impl.Peek(m, far, 77), told(m, addressOf(far), 77); got != want {
				t.Errorf("Peek(%d bytes, %d bytes) at %d = %d, want %d", len(m.Ram), len(m.Rom), far, got, want)
			}
		}
	}
}

func TestPeekOfWrongMem(t *testing.T) {
	for _, m := range wrongMems() {
		for _, addr := range append(someAddresses(), noAddresses()...) {
			if got := impl.Peek(m, addr, 77); got != 0 {
				t.Errorf("Peek(%d bytes, %d bytes) at %d = %d, want 0", len(m.Ram), len(m.Rom), addr, got)
			}
		}
	}
}

// TestPokeStandsThere: at all addresses that are the same place, and at no other one.
func TestPokeStandsThere(t *testing.T) {
	m := impl.Mem{Ram: ramText(700), Rom: romText(300)}
	for _, at := range someAddresses() {
		for _, v := range []int{0, 1, 128, 255} {
			poked := impl.Poke(m, at, v)
			for addr := range 65536 {
				want := told(m, addr, 77)
				if at < 8192 && addr < 8192 && addr%1024 == at%1024 {
					want = v
				}
				if got := impl.Peek(poked, addr, 77); got != want {
					t.Fatalf("behind Poke of %d at %d, Peek at %d = %d, want %d", v, at, addr, got, want)
				}
			}
		}
	}
}

// TestPokeOfAllRam asks all addresses of Ram, with Ram of all sizes: behind it Ram is as long as it may be.
func TestPokeOfAllRam(t *testing.T) {
	for _, size := range []int{0, 1, 3, 700, 1023, 1024} {
		m := impl.Mem{Ram: ramText(size), Rom: romText(size / 2)}
		for addr := range 8192 {
			want := impl.Mem{Ram: pokedRam(m.Ram, addr%1024, addr*3), Rom: m.Rom}
			checkMem(t, "Poke at "+impl.DecText(addr), impl.Poke(m, addr, addr*3), want)
		}
	}
}

// TestPokeOfWhatStandsThere: Ram becomes whole, even by a byte that is told there already.
func TestPokeOfWhatStandsThere(t *testing.T) {
	for _, m := range rightMems() {
		for _, addr := range []int{0, 2, 500, 1023, 1024, 8191} {
			v := standsAt(m, addr)
			want := impl.Mem{Ram: pokedRam(m.Ram, addr%1024, v), Rom: m.Rom}
			checkMem(t, "Poke of the same at "+impl.DecText(addr), impl.Poke(m, addr, v), want)
		}
	}
}

// TestPokeElsewhere: of the chip, of the copier, of nobody and of Rom nothing is written, nor is Ram made longer.
func TestPokeElsewhere(t *testing.T) {
	short := impl.Mem{Ram: "abc", Rom: "xyz"}
	for addr := 8192; addr < 65536; addr++ {
		checkMem(t, "Poke at "+impl.DecText(addr), impl.Poke(short, addr, 1), short)
	}
	for _, m := range rightMems() {
		for _, addr := range append(someAddresses(), noAddresses()...) {
			if ownerOf(addressOf(addr)) != impl.WhRam {
				checkMem(t, "Poke at "+impl.DecText(addr), impl.Poke(m, addr, 99), m)
			}
		}
	}
}

func TestPokeTakesLowestBits(t *testing.T) {
	m := impl.Mem{Ram: "abc", Rom: "xyz"}
	for _, v := range append(noBytes(), someBytes()...) {
		checkMem(t, "Poke of "+impl.DecText(v), impl.Poke(m, 1, v), impl.Mem{Ram: pokedRam("abc", 1, byteOf(v)), Rom: "xyz"})
	}
	for _, far := range noAddresses() {
		want := m
		if near := addressOf(far); near < 8192 {
			want.Ram = pokedRam("abc", near%1024, 99)
		}
		checkMem(t, "Poke at "+impl.DecText(far), impl.Poke(m, far, 99), want)
	}
}

func TestPokeAndLoadOfWrongMem(t *testing.T) {
	for _, m := range wrongMems() {
		for _, addr := range append(someAddresses(), noAddresses()...) {
			checkMem(t, "Poke at "+impl.DecText(addr), impl.Poke(m, addr, 99), m)
			for _, bytes := range []string{"", "1", "123", ramText(1024), ramText(1025)} {
				checkMem(t, "Load at "+impl.DecText(addr), impl.Load(m, addr, bytes), m)
			}
		}
	}
}

// TestPokesOneBehindTheOther holds many Pokes against numbers of places.
func TestPokesOneBehindTheOther(t *testing.T) {
	m := impl.Mem{Rom: romText(512)}
	places := [1024]int{}
	addr, v := 1, 1
	for range 3000 {
		addr, v = (addr*75+74)%65537, (v*61+17)%257
		m = impl.Poke(m, addr, v)
		if near := addressOf(addr); near < 8192 {
			places[near%1024] = byteOf(v)
		}
	}
	for addr := range 8192 {
		if got := impl.Peek(m, addr, 77); got != places[addr%1024] {
			t.Fatalf("behind Pokes, Peek at %d = %d, want %d", addr, got, places[addr%1024])
		}
	}
	if m.Rom != romText(512) || len(m.Ram) != 1024 {
		t.Errorf("behind Pokes there are %d bytes of Ram and %d of Rom", len(m.Ram), len(m.Rom))
	}
}

// loaded is Mem behind bytes put there one by one, with nothing of the program.
func loaded(m impl.Mem, addr int, bytes string) impl.Mem {
	if len(bytes) > 1024 {
		return m
	}
	for i := range len(bytes) {
		if at := (addressOf(addr) + i) % 65536; at < 8192 {
			m.Ram = pokedRam(m.Ram, at%1024, int(bytes[i]))
		}
	}
	return m
}

func TestLoadOfSome(t *testing.T) {
	m := impl.Mem{Ram: "abc", Rom: "xyz"}
	whole := func(begin string) string { return begin + strings.Repeat("\x00", 1024-len(begin)) }
	rows := []struct {
		addr  int
		bytes string
		want  string
	}{
		{0, "", "abc"}, {0, "1", whole("1bc")}, {1, "123", whole("a123")}, {1024, "12", whole("12c")}, {7169, "2", whole("a2c")},
		{1023, "12", "2bc" + strings.Repeat("\x00", 1020) + "1"}, {8191, "12", whole("abc")[:1023] + "1"},
		{65535, "123", whole("23c")}, {65534, "123", whole("3bc")}, {-1, "123", whole("23c")}, {65535, "1", "abc"}, {-3, "123", "abc"},
		{8192, "123", "abc"}, {12288, "123", "abc"}, {20000, "123", "abc"}, {61440, "123", "abc"}, {65536, "1", whole("1bc")},
		{131071, "12", whole("2bc")}, {math.MaxInt, "12", whole("2bc")}, {math.MinInt, "12", whole("12c")}, {0, "\x00", whole("\x00bc")},
		{2, "\xff\xfe\x00", whole("ab\xff\xfe")}, {3, "\u2026", whole("abc\xe2\x80\xa6")}, {61440, "", "abc"}, {65535, "", "abc"},
	}
	for _, row := range rows {
		checkMem(t, "Load of "+strconv.Quote(row.bytes)+" at "+impl.DecText(row.addr), impl.Load(m, row.addr, row.bytes), impl.Mem{Ram: row.want, Rom: "xyz"})
	}
}

// TestLoadIsPokes: Load does what Pokes do, and both what is told of them.
func TestLoadIsPokes(t *testing.T) {
	texts := []string{"", "\x00", "1", "12", "\xff\x00\x80", ramText(257), romText(1023), romText(1024)}
	for _, m := range []impl.Mem{{}, {Ram: "abc", Rom: "xyz"}, {Ram: ramText(1024), Rom: romText(512)}} {
		for _, addr := range append(someAddresses(), -1, -1023, -1024, 65536, 65536-1024, 8192-1024, 8192-1023) {
			for _, bytes := range texts {
				poked := m
				for i := range len(bytes) {
					poked = impl.Poke(poked, addr+i, int(bytes[i]))
				}
				what := "Load of " + impl.DecText(len(bytes)) + " bytes at " + impl.DecText(addr)
				checkMem(t, what, impl.Load(m, addr, bytes), poked)
				checkMem(t, what, poked, loaded(m, addr, bytes))
			}
		}
	}
}

func TestLoadTakesLowestBits(t *testing.T) {
	m := impl.Mem{Ram: "abc", Rom: "xyz"}
	for _, far := range noAddresses() {
		for _, bytes := range []string{"1", "123", ramText(1024)} {
			checkMem(t, "Load at "+impl.DecText(far), impl.Load(m, far, bytes), loaded(m, far, bytes))
		}
	}
}

// TestLoadOfMany: RamSize bytes are put, one more are not, not even those that would fit.
func TestLoadOfMany(t *testing.T) {
	m := impl.Mem{Ram: "abc", Rom: "xyz"}
	checkMem(t, "Load of 1024", impl.Load(m, 0, romText(1024)), impl.Mem{Ram: romText(1024), Rom: "xyz"})
	turned := impl.Mem{Ram: romText(1024)[1:] + romText(1024)[:1], Rom: "xyz"}
	checkMem(t, "Load of 1024 at 1023", impl.Load(m, 1023, romText(1024)), turned)
	for _, size := range []int{1025, 1026, 2048, 8192, 65536, 65537} {
		for _, addr := range []int{0, 1, 1023, 8191, 0x2000, 0xEFFF, 0xF000, 65535, -1, 65536, math.MaxInt} {
			checkMem(t, "Load of too many at "+impl.DecText(addr), impl.Load(m, addr, ramText(size)), m)
		}
	}
}

func TestLoadOfNone(t *testing.T) {
	for _, m := range rightMems() {
		for _, addr := range append(someAddresses(), noAddresses()...) {
			checkMem(t, "Load of none at "+impl.DecText(addr), impl.Load(m, addr, ""), m)
		}
	}
}

// TestLoadOverOthers: bytes that are not put still take an address each.
func TestLoadOverOthers(t *testing.T) {
	m := impl.Mem{Ram: ramText(5), Rom: romText(512)}
	checkMem(t, "Load from Ram to the chip", impl.Load(m, 8190, "12345"), loaded(m, 8190, "12"))
	checkMem(t, "Load from Rom to Ram", impl.Load(m, 65533, "12345"), loaded(m, 0, "45"))
	checkMem(t, "Load from the copier to nobody", impl.Load(m, 12542, "12345"), m)
	checkMem(t, "Load from nobody to Rom", impl.Load(m, 61438, "12345"), m)
	checkMem(t, "Load behind all of Rom", impl.Load(m, 65536-1024, ramText(1024)), m)
	checkMem(t, "Load of one byte at 0", impl.Load(m, 65536-1023, ramText(1024)), loaded(m, 0, ramText(1024)[1023:]))
}

// TestMemoryAnswersAlways: a panic fails the test; the same question has the same answer, and what was asked stays.
func TestMemoryAnswersAlways(t *testing.T) {
	texts := append(oddTexts(), ramText(1024), ramText(1025))
	for i, ram := range texts {
		rom := texts[(i*7+3)%len(texts)]
		m, kept := impl.Mem{Ram: ram, Rom: rom}, impl.Mem{Ram: strings.Clone(ram), Rom: strings.Clone(rom)}
		for _, n := range oddNumbers() {
			if got := impl.Peek(m, n, n); got != impl.Peek(m, n, n) || got < 0 || got > 255 {
				t.Errorf("Peek at %d = %d", n, got)
			}
			for _, bytes := range []string{"", "1", ram, rom} {
				got := impl.Load(m, n, bytes)
				checkMem(t, "Load again", impl.Load(m, n, bytes), got)
				if impl.MemOk(got) != impl.MemOk(m) {
					t.Errorf("Load at %d makes another thing right", n)
				}
			}
			got := impl.Poke(m, n, n)
			checkMem(t, "Poke again", impl.Poke(m, n, n), got)
			if impl.MemOk(got) != impl.MemOk(m) {
				t.Errorf("Poke at %d makes another thing right", n)
			}
		}
		checkMem(t, "the argument", m, kept)
	}
}

// TestMemoryIsNew: what is put behind one Mem is in no other that came from the same.
func TestMemoryIsNew(t *testing.T) {
	m := impl.Poke(impl.Mem{Ram: "abc"}, 0, 'x')
	one, two := impl.Poke(m, 1, '1'), impl.Load(m, 1, "2")
	checkMem(t, "the first", one, impl.Mem{Ram: pokedRam("x1c", 0, 'x')})
	checkMem(t, "the second", two, impl.Mem{Ram: pokedRam("x2c", 0, 'x')})
	checkMem(t, "what they came from", m, impl.Mem{Ram: pokedRam("xbc", 0, 'x')})
}
