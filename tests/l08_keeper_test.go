package tests

import (
	"math"
	"strings"
	"testing"

	"loop.example/g00760/impl"
)

// someKeeper is right, and no two of its parts are alike.
func someKeeper() impl.Keeper {
	return impl.Keeper{Waits: 7, Burst: 6, WaitLeft: 5, BurstLeft: 4, Addr: 0x1234, Left: 0x9A, Sum: 0xC7}
}

// fullKeeper has every part as great as it may be.
func fullKeeper() impl.Keeper {
	return impl.Keeper{Waits: 8, Burst: 8, WaitLeft: 8, BurstLeft: 8, Addr: 65535, Left: 255, Sum: 255}
}

// keeperParts are the parts of a Keeper, by name.
func keeperParts(k *impl.Keeper) map[string]*int {
	return map[string]*int{
		"Waits": &k.Waits, "Burst": &k.Burst, "WaitLeft": &k.WaitLeft, "BurstLeft": &k.BurstLeft,
		"Addr": &k.Addr, "Left": &k.Left, "Sum": &k.Sum,
	}
}

// keeperWith is k but for one part, which is v.
func keeperWith(k impl.Keeper, part string, v int) impl.Keeper {
	*keeperParts(&k)[part] = v
	return k
}

// keeperMayHave tells whether k, if it is right in all else, stays so with v as that part.
func keeperMayHave(k impl.Keeper, part string, v int) bool {
	least, most := 0, 255
	switch part {
	case "Waits":
		least, most = k.WaitLeft, 8
	case "Burst":
		least, most = k.BurstLeft, 8
	case "WaitLeft":
		most = k.Waits
	case "BurstLeft":
		most = k.Burst
	case "Addr":
		most = 65535
	}
	return least <= v && v <= most
}

// wrongKeepers are each wrong in one part alone, by one where that can be.
func wrongKeepers() []impl.Keeper {
	numbers := append(noBytes(), -1, 7, 8, 9, 10, 65535, 65536, 65537, 1<<32, 1<<32+4)
	var wrong []impl.Keeper
	for _, k := range []impl.Keeper{{}, someKeeper(), fullKeeper()} {
		for part := range keeperParts(&impl.Keeper{}) {
			for _, v := range numbers {
				if !keeperMayHave(k, part, v) {
					wrong = append(wrong, keeperWith(k, part, v))
				}
			}
		}
	}
	return wrong
}

// allLefts are the Keepers of all Waits, Burst, WaitLeft and BurstLeft that can be, with a few bytes left.
func allLefts(left int) []impl.Keeper {
	var all []impl.Keeper
	for waits := range 9 {
		for burst := range 9 {
			for waitLeft := range waits + 1 {
				for burstLeft := range burst + 1 {
					all = append(all, impl.Keeper{Waits: waits, Burst: burst, WaitLeft: waitLeft, BurstLeft: burstLeft, Left: left})
				}
			}
		}
	}
	return all
}

// ownerHas tells the chapter's words on Owner in another way than the program: by what speaks against each.
func ownerHas(k impl.Keeper, wait, reading bool) int {
	copies := reading && min(k.Left, k.BurstLeft) >= 1
	waits := reading && wait && k.WaitLeft >= 1
	switch {
	case copies:
		return 2
	case waits:
		return 1
	}
	return 0
}

// registersOf are the four that can be read, of a right Keeper.
func registersOf(k impl.Keeper) [4]int {
	return [4]int{k.Addr % 256, k.Addr / 256, k.Left, k.Sum}
}

// writtenKeeper is the right Keeper behind a write of a byte v to a register 0 to 3.
func writtenKeeper(k impl.Keeper, reg, v int) impl.Keeper {
	registers := registersOf(k)
	registers[reg] = v
	k.Addr, k.Left, k.Sum = registers[0]+256*registers[1], registers[2], registers[3]
	return k
}

// clockOfBus is a clock as a board has it: who has the bus, the byte copied, and what is spent.
func clockOfBus(k impl.Keeper, wait, reading bool, v int) (impl.Keeper, int) {
	owner := impl.Owner(k, wait, reading)
	if owner == impl.OwCopy {
		k = impl.Copied(k, v)
	}
	return impl.Spend(k, owner), owner
}

// ownersOf are the letters of those who have the bus, at so many clocks at which the core reads.
func ownersOf(k impl.Keeper, wait bool, clocks int) string {
	text := ""
	for range clocks {
		var owner int
		k, owner = clockOfBus(k, wait, true, 1)
		text += "cwk"[owner : owner+1]
	}
	return text
}

func checkKeeper(t *testing.T, what string, got, want impl.Keeper) {
	t.Helper()
	if got != want {
		t.Errorf("%s:\n got %+v\nwant %+v", what, got, want)
	}
}

func TestKeeperConstants(t *testing.T) {
	if impl.MaxCap != 8 || impl.OwCore != 0 || impl.OwWait != 1 || impl.OwCopy != 2 {
		t.Error("the keeper's constants have other numbers")
	}
}

func TestKeeperOkOfSome(t *testing.T) {
	rows := []struct {
		k    impl.Keeper
		want bool
	}{
		{impl.Keeper{}, true}, {someKeeper(), true}, {fullKeeper(), true},
		{impl.Keeper{Waits: 8}, true}, {impl.Keeper{Waits: 9}, false}, {impl.Keeper{Waits: -1}, false},
		{impl.Keeper{Burst: 8}, true}, {impl.Keeper{Burst: 9}, false}, {impl.Keeper{Burst: -1}, false},
		{impl.Keeper{Waits: 3, WaitLeft: 3}, true}, {impl.Keeper{Waits: 3, WaitLeft: 4}, false}, {impl.Keeper{Waits: 3, WaitLeft: -1}, false},
		{impl.Keeper{Burst: 3, BurstLeft: 3}, true}, {impl.Keeper{Burst: 3, BurstLeft: 4}, false}, {impl.Keeper{Burst: 3, BurstLeft: -1}, false},
		{impl.Keeper{WaitLeft: 1}, false}, {impl.Keeper{BurstLeft: 1}, false},
		{impl.Keeper{Waits: 8, WaitLeft: 9}, false}, {impl.Keeper{Burst: 8, BurstLeft: 9}, false},
		// What is left of one is not measured by the other.
		{impl.Keeper{Waits: 5, BurstLeft: 5}, false}, {impl.Keeper{Burst: 5, WaitLeft: 5}, false},
		// Each end is looked at by itself, even where both are beyond.
		{impl.Keeper{Waits: 9, WaitLeft: 9}, false}, {impl.Keeper{Burst: 9, BurstLeft: 9}, false},
		{impl.Keeper{Waits: -1, WaitLeft: -1}, false}, {impl.Keeper{Burst: -1, BurstLeft: -1}, false},
		{impl.Keeper{Addr: 65535}, true}, {impl.Keeper{Addr: 65536}, false}, {impl.Keeper{Addr: -1}, false},
		{impl.Keeper{Left: 255}, true}, {impl.Keeper{Left: 256}, false}, {impl.Keeper{Left: -1}, false},
		{impl.Keeper{Sum: 255}, true}, {impl.Keeper{Sum: 256}, false}, {impl.Keeper{Sum: -1}, false},
	}
	for _, row := range rows {
		if got := impl.KeeperOk(row.k); got != row.want {
			t.Errorf("KeeperOk(%+v) is %t", row.k, got)
		}
	}
}

func TestKeeperOkOfParts(t *testing.T) {
	for _, k := range []impl.Keeper{{}, someKeeper(), fullKeeper(), {Waits: 8, Burst: 8}} {
		for part := range keeperParts(&impl.Keeper{}) {
			for v := -300; v <= 600; v++ {
				if got := impl.KeeperOk(keeperWith(k, part, v)); got != keeperMayHave(k, part, v) {
					t.Errorf("KeeperOk of %+v with %s = %d is %t", k, part, v, got)
				}
			}
			for _, v := range append(noBytes(), noAddresses()...) {
				if got := impl.KeeperOk(keeperWith(k, part, v)); got != keeperMayHave(k, part, v) {
					t.Errorf("KeeperOk of %+v with %s = %d is %t", k, part, v, got)
				}
			}
		}
	}
}

// TestKeeperOkOfLefts: all that can be left, and beyond, of all that can be set, and beyond.
func TestKeeperOkOfLefts(t *testing.T) {
	for set := -2; set <= 11; set++ {
		for left := -2; left <= 11; left++ {
			want := set <= 8 && left >= 0 && left <= set
			if got := impl.KeeperOk(impl.Keeper{Waits: set, WaitLeft: left}); got != want {
				t.Errorf("KeeperOk with Waits %d and WaitLeft %d is %t", set, left, got)
			}
			if got := impl.KeeperOk(impl.Keeper{Burst: set, BurstLeft: left}); got != want {
				t.Errorf("KeeperOk with Burst %d and BurstLeft %d is %t", set, left, got)
			}
		}
	}
}

// TestOwnerOfSome is written out: whether something is left of each of the three, the core reading and writing, with wait and without.
func TestOwnerOfSome(t *testing.T) {
	rows := []struct {
		left, burstLeft, waitLeft int
		free, held                int
	}{
		{0, 0, 0, impl.OwCore, impl.OwCore},
		{0, 0, 1, impl.OwCore, impl.OwWait},
		{0, 1, 0, impl.OwCore, impl.OwCore},
		{0, 1, 1, impl.OwCore, impl.OwWait},
		{1, 0, 0, impl.OwCore, impl.OwCore},
		{1, 0, 1, impl.OwCore, impl.OwWait},
		{1, 1, 0, impl.OwCopy, impl.OwCopy},
		{1, 1, 1, impl.OwCopy, impl.OwCopy},
		{255, 8, 8, impl.OwCopy, impl.OwCopy},
		{255, 0, 8, impl.OwCore, impl.OwWait},
		{0, 8, 8, impl.OwCore, impl.OwWait},
		{255, 8, 0, impl.OwCopy, impl.OwCopy},
	}
	for _, row := range rows {
		k := impl.Keeper{Waits: 8, Burst: 8, WaitLeft: row.waitLeft, BurstLeft: row.burstLeft, Left: row.left}
		if got := impl.Owner(k, false, true); got != row.free {
			t.Errorf("Owner(%+v) without wait is %d, want %d", k, got, row.free)
		}
		if got := impl.Owner(k, true, true); got != row.held {
			t.Errorf("Owner(%+v) with wait is %d, want %d", k, got, row.held)
		}
		for _, wait := range []bool{false, true} {
			if got := impl.Owner(k, wait, false); got != impl.OwCore {
				t.Errorf("Owner(%+v, %t) while the core writes is %d", k, wait, got)
			}
		}
	}
}

func TestOwnerOfAllLefts(t *testing.T) {
	for _, left := range []int{0, 1, 2, 128, 255} {
		for _, k := range allLefts(left) {
			for bits := range 4 {
				wait, reading := bits&1 != 0, bits&2 != 0
				if got, want := impl.Owner(k, wait, reading), ownerHas(k, wait, reading); got != want {
					t.Errorf("Owner(%+v, %t, %t) = %d, want %d", k, wait, reading, got, want)
				}
			}
		}
	}
}

// TestOwnerOfWrongKeepers: the chapter asks no right one here, so the same words hold of another one.
func TestOwnerOfWrongKeepers(t *testing.T) {
	wrong := append(wrongKeepers(),
		impl.Keeper{Left: 5, BurstLeft: 5}, impl.Keeper{WaitLeft: 1}, impl.Keeper{Left: -1, BurstLeft: 1}, impl.Keeper{Left: 1, BurstLeft: -1},
		impl.Keeper{WaitLeft: -1}, impl.Keeper{Left: 256, BurstLeft: 256}, impl.Keeper{Left: math.MaxInt, BurstLeft: math.MaxInt, WaitLeft: math.MaxInt},
		impl.Keeper{Left: math.MinInt, BurstLeft: math.MinInt, WaitLeft: math.MinInt}, impl.Keeper{Left: math.MinInt, BurstLeft: math.MaxInt, WaitLeft: 1},
	)
	for _, k := range wrong {
		for bits := range 4 {
			wait, reading := bits&1 != 0, bits&2 != 0
			if got, want := impl.Owner(k, wait, reading), ownerHas(k, wait, reading); got != want {
				t.Errorf("Owner(%+v, %t, %t) = %d, want %d", k, wait, reading, got, want)
			}
		}
	}
}

func TestSpendOfSome(t *testing.T) {
	k := someKeeper()
	checkKeeper(t, "of the core", impl.Spend(k, impl.OwCore), impl.Keeper{Waits: 7, Burst: 6, WaitLeft: 7, BurstLeft: 6, Addr: 0x1234, Left: 0x9A, Sum: 0xC7})
	checkKeeper(t, "of one who waits", impl.Spend(k, impl.OwWait), impl.Keeper{Waits: 7, Burst: 6, WaitLeft: 4, BurstLeft: 4, Addr: 0x1234, Left: 0x9A, Sum: 0xC7})
	checkKeeper(t, "of one who copies", impl.Spend(k, impl.OwCopy), impl.Keeper{Waits: 7, Burst: 6, WaitLeft: 5, BurstLeft: 3, Addr: 0x1234, Left: 0x9A, Sum: 0xC7})
	empty := impl.Keeper{Waits: 2, Burst: 3}
	checkKeeper(t, "of one who waits, with none left", impl.Spend(empty, impl.OwWait), empty)
	checkKeeper(t, "of one who copies, with none left", impl.Spend(empty, impl.OwCopy), empty)
	checkKeeper(t, "of the core, with none left", impl.Spend(empty, impl.OwCore), impl.Keeper{Waits: 2, Burst: 3, WaitLeft: 2, BurstLeft: 3})
	for owner := range 3 {
		checkKeeper(t, "where nothing is set", impl.Spend(impl.Keeper{}, owner), impl.Keeper{})
	}
}

func TestSpendOfAllLefts(t *testing.T) {
	for _, k := range allLefts(77) {
		k.Addr, k.Sum = 0xFEDC, 99
		core, wait, copier := k, k, k
		core.WaitLeft, core.BurstLeft = k.Waits, k.Burst
		wait.WaitLeft = max(0, k.WaitLeft-1)
		copier.BurstLeft = max(0, k.BurstLeft-1)
		checkKeeper(t, "of the core", impl.Spend(k, impl.OwCore), core)
		checkKeeper(t, "of one who waits", impl.Spend(k, impl.OwWait), wait)
		checkKeeper(t, "of one who copies", impl.Spend(k, impl.OwCopy), copier)
	}
}

// TestSpendOfOtherNumbers: an owner is no byte, so those whose lowest bits are an owner's change nothing, too.
func TestSpendOfOtherNumbers(t *testing.T) {
	others := append(noBytes(), 3, 4, 255, 258, -254, 65536+1, 65536+2, 1<<32+1, 1<<32+2, math.MinInt+1, math.MinInt+2)
	for _, k := range []impl.Keeper{{}, someKeeper(), fullKeeper(), {Waits: 8, Burst: 8}} {
		for _, owner := range others {
			if owner < 0 || owner > 2 {
				checkKeeper(t, "of owner "+impl.DecText(owner), impl.Spend(k, owner), k)
			}
		}
		for owner := -1100; owner <= 1100; owner++ {
			if owner < 0 || owner > 2 {
				checkKeeper(t, "of owner "+impl.DecText(owner), impl.Spend(k, owner), k)
			}
		}
	}
}

// TestLongestWithoutCore: where all ask for the bus at each clock, each has it just as long as is set (and at first
// as is left), and then the core has it once.
func TestLongestWithoutCore(t *testing.T) {
	for _, k := range allLefts(255) {
		round := strings.Repeat("k", k.Burst) + strings.Repeat("w", k.Waits) + "c"
		first := strings.Repeat("k", k.BurstLeft) + strings.Repeat("w", k.WaitLeft) + "c"
		want := first + strings.Repeat(round, 3)
		if got := ownersOf(k, true, len(want)); got != want {
			t.Errorf("of %+v: %s, want %s", k, got, want)
		}
		alone := strings.Repeat("k", k.BurstLeft) + "c" + strings.Repeat(strings.Repeat("k", k.Burst)+"c", 3)
		if got := ownersOf(k, false, len(alone)); got != alone {
			t.Errorf("without wait, of %+v: %s, want %s", k, got, alone)
		}
		k.Left = 0
		held := strings.Repeat("w", k.WaitLeft) + "c" + strings.Repeat(strings.Repeat("w", k.Waits)+"c", 3)
		if got := ownersOf(k, true, len(held)); got != held {
			t.Errorf("with nothing to copy, of %+v: %s, want %s", k, got, held)
		}
	}
}

// TestNobodyHasItLonger goes long ways on which the core reads and writes, and others wait, as it comes: between
// two clocks of the core nobody has more clocks than are set, and the Keeper stays right.
func TestNobodyHasItLonger(t *testing.T) {
	step := 1
	for _, k := range allLefts(255) {
		waited, copied := k.Waits-k.WaitLeft, k.Burst-k.BurstLeft
		for range 120 {
			step = (step*75 + 74) % 65537
			wait, reading := step/16%4 != 0, step/64%8 != 0
			var owner int
			k, owner = clockOfBus(k, wait, reading, step)
			switch owner {
			case impl.OwCore:
				waited, copied = 0, 0
				k = impl.WriteKeeper(k, step/512, step/1024)
			case impl.OwWait:
				waited++
			case impl.OwCopy:
				copied++
			}
			if waited > k.Waits || copied > k.Burst || !reading && owner != impl.OwCore || !impl.KeeperOk(k) {
				t.Fatalf("behind a clock of %d, waited %d, copied %d: %+v", owner, waited, copied, k)
			}
		}
	}
}

func TestCopiedOfSome(t *testing.T) {
	rows := []struct {
		addr, left, sum, v       int
		addrNow, leftNow, sumNow int
	}{
		{0, 1, 0, 0, 1, 0, 0},
		{0, 2, 10, 20, 1, 1, 30},
		{65534, 5, 0, 1, 65535, 4, 1},
		{65535, 5, 0, 1, 0, 4, 1},
		{255, 255, 0, 255, 256, 254, 255},
		{0x12FF, 3, 1, 254, 0x1300, 2, 255},
		{0, 1, 1, 255, 1, 0, 0},
		{0, 1, 255, 1, 1, 0, 0},
		{0, 1, 255, 255, 1, 0, 254},
		{0, 1, 200, 100, 1, 0, 44},
		{65535, 1, 128, 128, 0, 0, 0},
		{9, 9, 9, -1, 10, 8, 8},
		{9, 9, 9, 256, 10, 8, 9},
		{9, 9, 9, math.MaxInt, 10, 8, 8},
		{9, 9, 9, math.MinInt, 10, 8, 9},
		{9, 9, 0, math.MinInt + 3, 10, 8, 3},
	}
	for _, row := range rows {
		k := impl.Keeper{Waits: 3, Burst: 4, WaitLeft: 1, BurstLeft: 2, Addr: row.addr, Left: row.left, Sum: row.sum}
		want := impl.Keeper{Waits: 3, Burst: 4, WaitLeft: 1, BurstLeft: 2, Addr: row.addrNow, Left: row.leftNow, Sum: row.sumNow}
		checkKeeper(t, "Copied of "+impl.DecText(row.v), impl.Copied(k, row.v), want)
	}
}

// TestCopiedOfAllBytes: all sums of two bytes, and of numbers that are none.
func TestCopiedOfAllBytes(t *testing.T) {
	numbers := noBytes()
	for v := range 256 {
		numbers = append(numbers, v)
	}
	for sum := range 256 {
		for _, v := range numbers {
			k := someKeeper()
			k.Sum = sum
			want := k
			want.Addr, want.Left, want.Sum = 0x1235, 0x99, (sum+byteOf(v))%256
			if got := impl.Copied(k, v); got != want {
				t.Fatalf("Copied(%+v, %d)\n got %+v\nwant %+v", k, v, got, want)
			}
		}
	}
}

// TestCopiedWithNoneLeft: the Sum and the address stay, whatever else there is.
func TestCopiedWithNoneLeft(t *testing.T) {
	for _, k := range []impl.Keeper{{}, someKeeper(), fullKeeper(), {Waits: 8, Burst: 8, BurstLeft: 8, Addr: 65535}} {
		k.Left = 0
		for _, v := range append(noBytes(), someBytes()...) {
			checkKeeper(t, "Copied of "+impl.DecText(v)+" with none left", impl.Copied(k, v), k)
		}
	}
}

// TestCopiedAsOftenAsLeft: each Copied but those beyond Left counts, and over the end of the addresses, too.
func TestCopiedAsOftenAsLeft(t *testing.T) {
	for left := range 256 {
		for _, addr := range []int{0, 200, 65280, 65535} {
			k := impl.Keeper{Addr: addr, Left: left, Sum: 250}
			for i := range left + 5 {
				k = impl.Copied(k, i+1)
				did := min(i+1, left)
				want := impl.Keeper{Addr: (addr + did) % 65536, Left: left - did, Sum: (250 + did*(did+1)/2) % 256}
				if k != want {
					t.Fatalf("of %d, behind %d:\n got %+v\nwant %+v", left, i+1, k, want)
				}
			}
		}
	}
}

// TestAsManyAreCopiedAsAreAsked: what is written to Left is how many clocks the copier has, at addresses one
// behind the other, for all that can be set where it may copy at all; where it may not, it never does.
func TestAsManyAreCopiedAsAreAsked(t *testing.T) {
	for _, asked := range []int{0, 1, 2, 7, 8, 9, 17, 100, 255} {
		for waits := range 9 {
			for burst := range 9 {
				k := impl.Keeper{Waits: waits, Burst: burst, WaitLeft: waits, BurstLeft: burst}
				for reg, v := range []int{0xF0, 0xFF, asked, 3} {
					k = impl.WriteKeeper(k, reg, v)
				}
				copied := 0
				for clock := range 3000 {
					ahead, owner := k, 0
					k, owner = clockOfBus(k, clock%3 == 0, clock%5 != 0, 7)
					if owner == impl.OwCopy {
						if ahead.Addr != (0xFFF0+copied)%65536 {
							t.Fatalf("%d asked: place %d is at %d", asked, copied, ahead.Addr)
						}
						copied++
					}
				}
				want := asked
				if burst == 0 {
					want = 0
				}
				if copied != want || k.Left != asked-want || k.Sum != (3+7*want)%256 || k.Addr != (0xFFF0+want)%65536 {
					t.Errorf("%d asked, Waits %d, Burst %d: %d copied, %+v", asked, waits, burst, copied, k)
				}
			}
		}
	}
}

func TestReadKeeperOfSome(t *testing.T) {
	rows := []struct{ reg, want int }{
		{0, 0x34}, {1, 0x12}, {2, 0x9A}, {3, 0xC7}, {4, 0x34}, {5, 0x12}, {6, 0x9A}, {7, 0xC7},
		{-4, 0x34}, {-3, 0x12}, {-2, 0x9A}, {-1, 0xC7}, {-5, 0xC7}, {-6, 0x9A}, {-7, 0x12}, {-8, 0x34},
		{0x3000, 0x34}, {0x30FF, 0xC7}, {math.MaxInt, 0xC7}, {math.MaxInt - 1, 0x9A}, {math.MinInt, 0x34}, {math.MinInt + 1, 0x12},
	}
	for _, row := range rows {
		if got := impl.ReadKeeper(someKeeper(), row.reg); got != row.want {
			t.Errorf("ReadKeeper at %d = %d, want %d", row.reg, got, row.want)
		}
	}
}

// TestReadKeeperOfMany: all addresses, and all bytes left and summed, by all numbers near the four registers.
func TestReadKeeperOfMany(t *testing.T) {
	for addr := range 65536 {
		k := impl.Keeper{Waits: addr % 9, Burst: addr / 9 % 9, Addr: addr, Left: addr / 3 % 256, Sum: addr / 5 % 256}
		registers := registersOf(k)
		for reg := -5; reg <= 8; reg++ {
			if got, want := impl.ReadKeeper(k, reg), registers[(reg+8)%4]; got != want {
				t.Fatalf("ReadKeeper(%+v, %d) = %d, want %d", k, reg, got, want)
			}
		}
	}
}

func TestWriteKeeperOfSome(t *testing.T) {
	rows := []struct {
		reg, v          int
		addr, left, sum int
	}{
		{0, 0x56, 0x1256, 0x9A, 0xC7}, {1, 0x56, 0x5634, 0x9A, 0xC7}, {2, 0x56, 0x1234, 0x56, 0xC7}, {3, 0x56, 0x1234, 0x9A, 0x56},
		{0, 0, 0x1200, 0x9A, 0xC7}, {1, 0, 0x0034, 0x9A, 0xC7}, {2, 0, 0x1234, 0, 0xC7}, {3, 0, 0x1234, 0x9A, 0},
		{0, 255, 0x12FF, 0x9A, 0xC7}, {1, 255, 0xFF34, 0x9A, 0xC7}, {2, 255, 0x1234, 255, 0xC7}, {3, 255, 0x1234, 0x9A, 255},
		{4, 1, 0x1201, 0x9A, 0xC7}, {5, 1, 0x0134, 0x9A, 0xC7}, {6, 1, 0x1234, 1, 0xC7}, {7, 1, 0x1234, 0x9A, 1},
		{-4, 1, 0x1201, 0x9A, 0xC7}, {-3, 1, 0x0134, 0x9A, 0xC7}, {-2, 1, 0x1234, 1, 0xC7}, {-1, 1, 0x1234, 0x9A, 1},
		{0, 256, 0x1200, 0x9A, 0xC7}, {1, 257, 0x0134, 0x9A, 0xC7}, {2, -1, 0x1234, 255, 0xC7}, {3, -256, 0x1234, 0x9A, 0},
		{math.MaxInt, math.MaxInt, 0x1234, 0x9A, 255}, {math.MinInt, math.MinInt, 0x1200, 0x9A, 0xC7},
		{math.MinInt + 2, math.MaxInt - 5, 0x1234, 250, 0xC7},
	}
	for _, row := range rows {
		want := someKeeper()
		want.Addr, want.Left, want.Sum = row.addr, row.left, row.sum
		checkKeeper(t, "WriteKeeper of "+impl.DecText(row.v)+" at "+impl.DecText(row.reg), impl.WriteKeeper(someKeeper(), row.reg, row.v), want)
	}
}

// TestKeeperRegistersByLowestBits: all bytes, and numbers that are none, at all numbers near and far from the four; what
// is written is what is read then, and all else stays.
func TestKeeperRegistersByLowestBits(t *testing.T) {
	numbers := noBytes()
	for v := range 256 {
		numbers = append(numbers, v)
	}
	regs := append(noBytes(), 0, 1, 2, 3, 4, 5, 6, 7, 8, -3, -4, -5, -6, -7, -8)
	for _, k := range []impl.Keeper{{}, someKeeper(), fullKeeper()} {
		for _, reg := range regs {
			near := byteOf(reg) % 4
			for _, v := range numbers {
				got := impl.WriteKeeper(k, reg, v)
				if want := writtenKeeper(k, near, byteOf(v)); got != want {
					t.Fatalf("WriteKeeper(%+v, %d, %d)\n got %+v\nwant %+v", k, reg, v, got, want)
				}
				if read := impl.ReadKeeper(got, reg); read != byteOf(v) {
					t.Fatalf("ReadKeeper(%+v, %d) = %d, want %d", got, reg, read, byteOf(v))
				}
			}
		}
	}
}

func TestKeeperOfWrongParts(t *testing.T) {
	for _, k := range wrongKeepers() {
		if impl.KeeperOk(k) {
			t.Errorf("KeeperOk(%+v) is true", k)
		}
		for owner := -1; owner <= 4; owner++ {
			checkKeeper(t, "Spend of one that isn't right", impl.Spend(k, owner), k)
		}
		for _, v := range []int{0, 1, 255, 256, -1} {
			checkKeeper(t, "Copied of one that isn't right", impl.Copied(k, v), k)
			for reg := -5; reg <= 8; reg++ {
				checkKeeper(t, "WriteKeeper of one that isn't right", impl.WriteKeeper(k, reg, v), k)
			}
		}
		for reg := -5; reg <= 8; reg++ {
			if v := impl.ReadKeeper(k, reg); v != 0 {
				t.Errorf("ReadKeeper(%+v, %d) = %d, want 0", k, reg, v)
			}
		}
	}
}

// TestRightKeeperStaysRight goes a long way of all that can be done with one, in any order.
func TestRightKeeperStaysRight(t *testing.T) {
	for _, k := range []impl.Keeper{{}, someKeeper(), fullKeeper(), {Waits: 8, Burst: 1}, {Waits: 1, Burst: 8}} {
		waits, burst, step := k.Waits, k.Burst, 1
		for range 50000 {
			step = (step*75 + 74) % 65537
			switch step % 4 {
			case 0:
				k = impl.WriteKeeper(k, step/7-4000, step/16-2000)
			case 1:
				k = impl.Copied(k, step/16-2000)
			default:
				k = impl.Spend(k, step/64%5-1)
			}
			if !impl.KeeperOk(k) || k.Waits != waits || k.Burst != burst {
				t.Fatalf("behind step %d: %+v", step, k)
			}
		}
	}
}

// TestKeeperAnswersAlways: a panic fails the test; the same question has the same answer, what is right stays so,
// and what isn't stays as it is.
func TestKeeperAnswersAlways(t *testing.T) {
	for part := range keeperParts(&impl.Keeper{}) {
		for _, n := range oddNumbers() {
			k := keeperWith(someKeeper(), part, n)
			kept, right := k, impl.KeeperOk(k)
			for _, x := range oddNumbers() {
				v := impl.ReadKeeper(k, x)
				if v != impl.ReadKeeper(k, x) || v < 0 || v > 255 {
					t.Errorf("ReadKeeper(%+v, %d) = %d", k, x, v)
				}
				for _, next := range []impl.Keeper{impl.Spend(k, x), impl.Copied(k, x), impl.WriteKeeper(k, x, n), impl.WriteKeeper(k, n, x)} {
					if impl.KeeperOk(next) != right || !right && next != k {
						t.Errorf("of %+v with %d: %+v", k, x, next)
					}
				}
				checkKeeper(t, "Spend again", impl.Spend(k, x), impl.Spend(k, x))
				checkKeeper(t, "Copied again", impl.Copied(k, x), impl.Copied(k, x))
				checkKeeper(t, "WriteKeeper again", impl.WriteKeeper(k, x, n), impl.WriteKeeper(k, x, n))
			}
			for bits := range 4 {
				owner := impl.Owner(k, bits&1 != 0, bits&2 != 0)
				if owner != impl.Owner(k, bits&1 != 0, bits&2 != 0) || owner < 0 || owner > 2 {
					t.Errorf("Owner(%+v) is %d", k, owner)
				}
			}
			checkKeeper(t, "the argument", k, kept)
		}
	}
}
