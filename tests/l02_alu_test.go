package tests

import (
	"math"
	"testing"

	"loop.example/g00760/impl"
)

// someBytes are those at which something goes over, up or down.
func someBytes() []int {
	return []int{
		0, 1, 2, 5, 6, 9, 10, 15, 16, 31, 80, 85, 96, 100, 127, 128, 129, 144,
		153, 154, 159, 160, 161, 170, 176, 191, 192, 208, 240, 249, 250, 254, 255,
	}
}

// noBytes are numbers beyond the bytes, far and near, of all lower eight bits.
func noBytes() []int {
	numbers := []int{-1, -2, -127, -128, -129, -255, -256, -257, 256, 257, 383, 384, 511, 512, 65535, 65536}
	for _, v := range someBytes() {
		numbers = append(numbers, v+256, v-256, v+1<<40, v-1<<40, v+math.MinInt, math.MaxInt-v)
	}
	return append(numbers, oddNumbers()...)
}

// noted is a number of notes: those of p, but what is told of here.
func noted(p int, told map[int]bool) int {
	for flag, on := range told {
		p = p/(2*flag)*(2*flag) + p%flag
		if on {
			p += flag
		}
	}
	return p
}

func isNoted(p int, flag int) bool { return p/flag%2 == 1 }

// signed is a byte as a number of -128 .. 127.
func signed(v int) int { return (v+128)%256 - 128 }

func byteOf(n int) int { return ((n % 256) + 256) % 256 }

func carried(p int) int { return p % 2 }

func TestWithSetsAndClears(t *testing.T) {
	rows := []struct {
		p, flag int
		on      bool
		want    int
	}{
		{0, impl.FlC, true, 1}, {0, impl.FlN, true, 128}, {255, impl.FlD, false, 247}, {255, impl.FlN, false, 127},
		{0, impl.FlD, false, 0}, {8, impl.FlD, true, 8}, {0, 255, true, 255}, {255, 255, false, 0},
		{170, 85, true, 255}, {170, 85, false, 170}, {170, 15, true, 175}, {170, 15, false, 160},
		{77, 0, true, 77}, {77, 0, false, 77}, {256, 1, false, 0}, {256, 1, true, 1}, {0, 256, true, 0},
		{255, 256, false, 255}, {0, 257, true, 1}, {-1, 1, false, 254}, {0, -1, true, 255}, {255, -1, false, 0},
		{math.MinInt, 4, true, 4}, {math.MaxInt, 4, false, 251}, {5, math.MinInt, true, 5}, {5, math.MaxInt, true, 255},
	}
	for _, row := range rows {
		if got := impl.With(row.p, row.flag, row.on); got != row.want {
			t.Errorf("With(%d, %d, %t) = %d, want %d", row.p, row.flag, row.on, got, row.want)
		}
	}
	for p := range 256 {
		for _, flag := range []int{impl.FlC, impl.FlZ, impl.FlI, impl.FlD, impl.FlB, impl.FlU, impl.FlV, impl.FlN} {
			for _, on := range []bool{false, true} {
				if got, want := impl.With(p, flag, on), noted(p, map[int]bool{flag: on}); got != want {
					t.Errorf("With(%d, %d, %t) = %d, want %d", p, flag, on, got, want)
				}
			}
		}
	}
}

func TestFlagsAndKindsAreTheirNumbers(t *testing.T) {
	flags := [...]int{impl.FlC, impl.FlZ, impl.FlI, impl.FlD, impl.FlB, impl.FlU, impl.FlV, impl.FlN}
	if flags != [...]int{1, 2, 4, 8, 16, 32, 64, 128} {
		t.Errorf("flags are %v", flags)
	}
	kinds := [...]int{impl.ShAsl, impl.ShLsr, impl.ShRol, impl.ShRor}
	if kinds != [...]int{0, 1, 2, 3} {
		t.Errorf("kinds are %v", kinds)
	}
}

func TestNzNotesTheByte(t *testing.T) {
	for p := range 256 {
		for v := range 256 {
			want := noted(p, map[int]bool{128: v >= 128, 2: v == 0})
			if got := impl.Nz(p, v); got != want {
				t.Fatalf("Nz(%d, %d) = %d, want %d", p, v, got, want)
			}
		}
	}
	rows := [][3]int{{255, 0, 127}, {0, 0, 2}, {0, 128, 128}, {130, 256, 2}, {2, -1, 128}, {0, 384, 128}, {0, -256, 2}}
	for _, row := range rows {
		if got := impl.Nz(row[0], row[1]); got != row[2] {
			t.Errorf("Nz(%d, %d) = %d, want %d", row[0], row[1], got, row[2])
		}
	}
}

type reckoned struct{ p, a, b, notes, value int }

func checkReckoned(t *testing.T, name string, do func(p, a, b int) (int, int), rows []reckoned) {
	t.Helper()
	for _, row := range rows {
		if notes, value := do(row.p, row.a, row.b); notes != row.notes || value != row.value {
			t.Errorf("%s(%d, %d, %d) = %d, %d, want %d, %d", name, row.p, row.a, row.b, notes, value, row.notes, row.value)
		}
	}
}

func TestAddOfBytes(t *testing.T) {
	checkReckoned(t, "Add", impl.Add, []reckoned{
		{0, 1, 1, 0, 2}, {1, 1, 1, 0, 3},
		{0, 0, 0, 2, 0}, {1, 0, 0, 0, 1},
		// A sum of 255, and of 256.
		{0, 255, 0, 128, 255}, {0, 254, 1, 128, 255}, {1, 254, 0, 128, 255}, {1, 127, 127, 64 + 128, 255},
		{0, 255, 1, 1 + 2, 0}, {1, 255, 0, 1 + 2, 0}, {0, 128, 128, 1 + 2 + 64, 0}, {1, 128, 127, 1 + 2, 0},
		{1, 255, 255, 1 + 128, 255}, {0, 255, 255, 1 + 128, 254},
		// Bit 128 of both is the same, and that of the sum, or not.
		{0, 80, 16, 0, 96}, {0, 80, 80, 64 + 128, 160}, {0, 208, 144, 1 + 64, 96}, {0, 208, 208, 1 + 128, 160},
		{0, 127, 1, 64 + 128, 128}, {1, 127, 0, 64 + 128, 128}, {0, 128, 255, 1 + 64, 127}, {1, 128, 255, 1 + 128, 128},
		{0, 80, 208, 1, 32}, {0, 208, 80, 1, 32},
		// Notes that are not of it stay.
		{4 + 16 + 32, 1, 1, 4 + 16 + 32, 2}, {255 - 8 - 1, 1, 1, 4 + 16 + 32, 2},
	})
}

func TestSubOfBytes(t *testing.T) {
	checkReckoned(t, "Sub", impl.Sub, []reckoned{
		{1, 5, 4, 1, 1}, {0, 5, 4, 1 + 2, 0}, {1, 4, 5, 128, 255}, {0, 4, 5, 128, 254},
		{1, 0, 0, 1 + 2, 0}, {0, 0, 0, 128, 255}, {1, 0, 1, 128, 255}, {1, 0, 255, 0, 1}, {0, 0, 255, 2, 0},
		{1, 255, 255, 1 + 2, 0}, {0, 255, 255, 128, 255},
		// Bit 128 of both is not the same, and that of the rest is that of a, or not.
		{1, 80, 48, 1, 32}, {1, 80, 176, 64 + 128, 160}, {1, 208, 112, 1 + 64, 96}, {1, 208, 48, 1 + 128, 160},
		{1, 128, 1, 1 + 64, 127}, {0, 128, 0, 1 + 64, 127}, {1, 127, 255, 64 + 128, 128}, {0, 127, 255, 0, 127},
		{4 + 16 + 32 + 1, 9, 2, 4 + 16 + 32 + 1, 7}, {255 - 8, 9, 2, 4 + 16 + 32 + 1, 7},
	})
}

// TestReckoningOfAllBytes tells V by the signed sum, which the document does not speak of.
func TestReckoningOfAllBytes(t *testing.T) {
	for a := range 256 {
		for b := range 256 {
			for _, p := range []int{0, 1, 0xF6, 0xF7} {
				c := carried(p)
				sum, inside := a+b+c, signed(a)+signed(b)+c
				want := noted(p, map[int]bool{1: sum > 255, 2: byteOf(sum) == 0, 64: inside != signed(byteOf(sum)), 128: byteOf(sum) > 127})
				if notes, value := impl.Add(p, a, b); notes != want || value != byteOf(sum) {
					t.Fatalf("Add(%d, %d, %d) = %d, %d, want %d, %d", p, a, b, notes, value, want, byteOf(sum))
				}
				rest, inside := a-b-1+c, signed(a)-signed(b)-1+c
				want = noted(p, map[int]bool{1: rest >= 0, 2: byteOf(rest) == 0, 64: inside != signed(byteOf(rest)), 128: byteOf(rest) > 127})
				if notes, value := impl.Sub(p, a, b); notes != want || value != byteOf(rest) {
					t.Fatalf("Sub(%d, %d, %d) = %d, %d, want %d, %d", p, a, b, notes, value, want, byteOf(rest))
				}
			}
		}
	}
}

func TestAddByTens(t *testing.T) {
	checkReckoned(t, "Add", impl.Add, []reckoned{
		{8, 0x25, 0x48, 8, 0x73}, {9, 0x58, 0x46, 1 + 8 + 64 + 128, 0x05}, {8, 0x12, 0x34, 8, 0x46},
		{8, 0x00, 0x00, 2 + 8, 0x00}, {9, 0x00, 0x00, 8, 0x01}, {8, 0x99, 0x01, 1 + 8 + 128, 0x00},
		{9, 0x99, 0x99, 1 + 8 + 64, 0x99}, {8, 0x70, 0x10, 8 + 64 + 128, 0x80}, {9, 0x79, 0x00, 8 + 64 + 128, 0x80},
		// A lower half of 9, of 10, and of as much as may be.
		{8, 0x04, 0x05, 8, 0x09}, {8, 0x05, 0x05, 8, 0x10}, {9, 0x04, 0x05, 8, 0x10}, {9, 0x09, 0x09, 8, 0x19},
		{8, 0x15, 0x05, 8, 0x20}, {8, 0x0A, 0x00, 8, 0x10}, {8, 0x0F, 0x00, 8, 0x15}, {9, 0x0F, 0x0F, 8, 0x15},
		{8, 0x0C, 0x0D, 8, 0x1F}, {8, 0x0E, 0x0E, 8, 0x12}, {8, 0x0F, 0x0B, 8, 0x10},
		// A sum of 159, of 160, and of more; N is noted ahead of that.
		{8, 0x90, 0x09, 8 + 128, 0x99}, {8, 0x90, 0x0A, 1 + 8 + 128, 0x00}, {8, 0x90, 0x10, 1 + 8 + 128, 0x00},
		{8, 0x50, 0x50, 1 + 8 + 64 + 128, 0x00}, {9, 0x99, 0x00, 1 + 8 + 128, 0x00}, {8, 0x80, 0x20, 1 + 8 + 128, 0x00},
		{8, 0x9F, 0x00, 1 + 8 + 128, 0x05}, {8, 0x8F, 0x0F, 8 + 128, 0x94}, {8, 0x60, 0x2F, 8 + 64 + 128, 0x95},
		// Z is that of the plain sum, whatever byte comes.
		{8, 0x80, 0x80, 1 + 2 + 8 + 64, 0x60}, {8, 0x9A, 0x66, 1 + 2 + 8, 0x66}, {8, 0xFF, 0x01, 1 + 2 + 8, 0x66},
		// Upper halves that are no digits of ten.
		{8, 0xA0, 0x00, 1 + 8 + 128, 0x00}, {8, 0xF0, 0xF0, 1 + 8 + 128, 0x40}, {9, 0xFF, 0xFF, 1 + 8 + 128, 0x55},
		// Notes that are not of it stay; those of it don't.
		{4 + 8 + 16 + 32, 0x01, 0x02, 4 + 8 + 16 + 32, 0x03}, {255 - 1, 0x01, 0x02, 4 + 8 + 16 + 32, 0x03},
	})
}

func TestSubByTens(t *testing.T) {
	checkReckoned(t, "Sub", impl.Sub, []reckoned{
		{9, 0x46, 0x12, 1 + 8, 0x34}, {9, 0x40, 0x13, 1 + 8, 0x27}, {8, 0x32, 0x02, 1 + 8, 0x29},
		{9, 0x12, 0x21, 8 + 128, 0x91}, {8, 0x12, 0x21, 8 + 128, 0x90}, {9, 0x99, 0x99, 1 + 2 + 8, 0x00},
		{9, 0x80, 0x01, 1 + 8 + 64, 0x79}, {9, 0x00, 0x80, 8 + 64 + 128, 0x20},
		// A lower half of 0, of -1, and of as little as may be.
		{9, 0x05, 0x05, 1 + 2 + 8, 0x00}, {8, 0x05, 0x05, 8 + 128, 0x99}, {9, 0x10, 0x01, 1 + 8, 0x09},
		{8, 0x10, 0x00, 1 + 8, 0x09}, {9, 0x20, 0x0F, 1 + 8, 0x1B}, {8, 0x20, 0x0F, 1 + 8, 0x1A},
		{9, 0x0A, 0x0F, 8 + 128, 0x95},
		// A rest of 0, and below.
		{9, 0x00, 0x00, 1 + 2 + 8, 0x00}, {8, 0x00, 0x00, 8 + 128, 0x99}, {9, 0x00, 0x01, 8 + 128, 0x99},
		{9, 0x00, 0x10, 8 + 128, 0x90}, {9, 0x10, 0x20, 8 + 128, 0x90},
		// Halves that are no digits of ten; Z is that of the plain rest.
		{9, 0x0F, 0x00, 1 + 8, 0x0F}, {9, 0x00, 0x0F, 8 + 128, 0x9B}, {8, 0x00, 0x0F, 8 + 128, 0x9A},
		{9, 0xFF, 0xAA, 1 + 8, 0x55}, {9, 0xA0, 0x0B, 1 + 8 + 128, 0x9F}, {9, 0x00, 0x0A, 8 + 128, 0x90},
		{8, 0x00, 0xFF, 2 + 8, 0xAA}, {9, 0xF0, 0xFF, 8 + 128, 0x9B}, {9, 0x7F, 0xF0, 8 + 64 + 128, 0x2F},
		{1 + 4 + 8 + 16 + 32, 0x09, 0x02, 1 + 4 + 8 + 16 + 32, 0x07}, {255, 0x09, 0x02, 1 + 4 + 8 + 16 + 32, 0x07},
	})
}

func tens(n int) int { return n/10*16 + n%10 }

// TestTensAreNumbersOfTwoDigits: of bytes whose halves are digits, bytes and C are those of the school.
func TestTensAreNumbersOfTwoDigits(t *testing.T) {
	for a := range 100 {
		for b := range 100 {
			for c := range 2 {
				p := impl.FlD + c
				sum := a + b + c
				if notes, value := impl.Add(p, tens(a), tens(b)); value != tens(sum%100) || isNoted(notes, impl.FlC) != (sum > 99) {
					t.Fatalf("by tens %d and %d and %d are %X, notes %d", a, b, c, value, notes)
				}
				rest := a - b - 1 + c
				if notes, value := impl.Sub(p, tens(a), tens(b)); value != tens((rest+100)%100) || isNoted(notes, impl.FlC) != (rest >= 0) {
					t.Fatalf("by tens %d less %d less 1 and %d are %X, notes %d", a, b, c, value, notes)
				}
			}
		}
	}
}

// sumByTens is the document's, in its own order.
func sumByTens(p, a, b int) (notes, value int) {
	r := a + b + carried(p)
	l := a%16 + b%16 + carried(p)
	if l > 9 {
		l = 16 + (l+6)%16
	}
	s := a/16*16 + b/16*16 + l
	p = noted(p, map[int]bool{2: r%256 == 0, 128: isNoted(s, 128), 64: isNoted(a, 128) == isNoted(b, 128) && isNoted(s, 128) != isNoted(a, 128)})
	if s >= 160 {
		s += 96
	}
	return noted(p, map[int]bool{1: s >= 256}), s % 256
}

func restByTens(p, a, b int) int {
	l := a%16 - b%16 - 1 + carried(p)
	if l < 0 {
		l = (l-6+32)%16 - 16
	}
	s := a/16*16 - b/16*16 + l
	if s < 0 {
		s -= 96
	}
	return byteOf(s)
}

func TestTensOfAllBytes(t *testing.T) {
	for a := range 256 {
		for b := range 256 {
			for _, p := range []int{8, 9, 0xFE, 0xFF} {
				wantNotes, want := sumByTens(p, a, b)
				if notes, value := impl.Add(p, a, b); notes != wantNotes || value != want {
					t.Fatalf("Add(%d, %d, %d) = %d, %d, want %d, %d", p, a, b, notes, value, wantNotes, want)
				}
				plain, _ := impl.Sub(p-impl.FlD, a, b)
				if notes, value := impl.Sub(p, a, b); notes != plain+impl.FlD || value != restByTens(p, a, b) {
					t.Fatalf("Sub(%d, %d, %d) = %d, %d, want %d, %d", p, a, b, notes, value, plain+impl.FlD, restByTens(p, a, b))
				}
			}
		}
	}
}

// TestSumsComeBack: what was carried into the sum is borrowed at the rest, so C is the other one there.
func TestSumsComeBack(t *testing.T) {
	for a := range 256 {
		for b := range 256 {
			for c := range 2 {
				_, sum := impl.Add(c, a, b)
				if _, value := impl.Sub(1-c, sum, b); value != a {
					t.Fatalf("%d and %d and %d less that is %d", a, b, c, value)
				}
				_, rest := impl.Sub(1-c, a, b)
				if _, value := impl.Add(c, rest, b); value != a {
					t.Fatalf("%d less %d and back, with %d, is %d", a, b, c, value)
				}
			}
		}
	}
}

func TestSumsByTensComeBack(t *testing.T) {
	for i := range 100 {
		for j := range 100 {
			for c := range 2 {
				a, b := tens(i), tens(j)
				_, sum := impl.Add(impl.FlD+c, a, b)
				if _, value := impl.Sub(impl.FlD+1-c, sum, b); value != a {
					t.Fatalf("by tens %X and %X and %d less that is %X", a, b, c, value)
				}
				_, rest := impl.Sub(impl.FlD+1-c, a, b)
				if _, value := impl.Add(impl.FlD+c, rest, b); value != a {
					t.Fatalf("by tens %X less %X and back, with %d, is %X", a, b, c, value)
				}
			}
		}
	}
}

func TestCompareOfAllBytes(t *testing.T) {
	rows := [][4]int{{0, 5, 5, 3}, {3, 4, 5, 128}, {0, 200, 5, 129}, {64, 261, 5, 67}, {0, 0, 0, 3}, {1, 0, 255, 0}, {8, 16, 1, 9}, {9, 1, 16, 136}}
	for _, row := range rows {
		if got := impl.Compare(row[0], row[1], row[2]); got != row[3] {
			t.Errorf("Compare(%d, %d, %d) = %d, want %d", row[0], row[1], row[2], got, row[3])
		}
	}
	for a := range 256 {
		for b := range 256 {
			for _, p := range []int{0, 1, 8, 9, 64, 254, 255} {
				want := noted(p, map[int]bool{1: a >= b, 2: a == b, 128: byteOf(a-b) > 127})
				if got := impl.Compare(p, a, b); got != want {
					t.Fatalf("Compare(%d, %d, %d) = %d, want %d", p, a, b, got, want)
				}
			}
		}
	}
}

func TestShiftOfBytes(t *testing.T) {
	rows := []struct{ p, kind, v, notes, value int }{
		{0, impl.ShAsl, 129, 1, 2}, {1, impl.ShAsl, 129, 1, 2}, {1, impl.ShAsl, 64, 128, 128}, {1, impl.ShAsl, 0, 2, 0}, {0, impl.ShAsl, 128, 3, 0},
		{0, impl.ShLsr, 1, 3, 0}, {1, impl.ShLsr, 1, 3, 0}, {129, impl.ShLsr, 128, 0, 64}, {1, impl.ShLsr, 0, 2, 0}, {0, impl.ShLsr, 255, 1, 127},
		{1, impl.ShRol, 64, 128, 129}, {0, impl.ShRol, 64, 128, 128}, {0, impl.ShRol, 128, 3, 0}, {1, impl.ShRol, 128, 1, 1}, {1, impl.ShRol, 0, 0, 1},
		{1, impl.ShRor, 2, 128, 129}, {0, impl.ShRor, 2, 0, 1}, {0, impl.ShRor, 1, 3, 0}, {1, impl.ShRor, 1, 129, 128}, {1, impl.ShRor, 0, 128, 128},
		{255, impl.ShAsl, 1, 124, 2}, {255, impl.ShRor, 1, 253, 128}, {124, impl.ShLsr, 2, 124, 1},
	}
	for _, row := range rows {
		if notes, value := impl.Shift(row.p, row.kind, row.v); notes != row.notes || value != row.value {
			t.Errorf("Shift(%d, %d, %d) = %d, %d, want %d, %d", row.p, row.kind, row.v, notes, value, row.notes, row.value)
		}
	}
}

func TestShiftOfAllBytes(t *testing.T) {
	for p := range 256 {
		c := carried(p)
		for v := range 256 {
			wants := map[int]int{impl.ShAsl: v * 2 % 256, impl.ShLsr: v / 2, impl.ShRol: (v*2 + c) % 256, impl.ShRor: v/2 + 128*c}
			for kind, want := range wants {
				gone := v > 127
				if kind == impl.ShLsr || kind == impl.ShRor {
					gone = v%2 == 1
				}
				wantNotes := noted(p, map[int]bool{1: gone, 2: want == 0, 128: want > 127})
				if notes, value := impl.Shift(p, kind, v); notes != wantNotes || value != want {
					t.Fatalf("Shift(%d, %d, %d) = %d, %d, want %d, %d", p, kind, v, notes, value, wantNotes, want)
				}
			}
		}
	}
}

// TestShiftsComeBack: the bit that goes is C, and comes in again from there.
func TestShiftsComeBack(t *testing.T) {
	ways := [][2]int{{impl.ShRol, impl.ShRor}, {impl.ShRor, impl.ShRol}, {impl.ShAsl, impl.ShRor}, {impl.ShLsr, impl.ShRol}}
	for _, way := range ways {
		for p := range 256 {
			for v := range 256 {
				notes, value := impl.Shift(p, way[0], v)
				notes, value = impl.Shift(notes, way[1], value)
				if value != v {
					t.Fatalf("shifts %v of %d with notes %d come back as %d", way, v, p, value)
				}
				if way[0] >= impl.ShRol && carried(notes) != carried(p) {
					t.Fatalf("shifts %v of %d with notes %d leave notes %d", way, v, p, notes)
				}
			}
		}
	}
}

// TestShiftOfAnotherKind: no lower bits of a kind count, as it is no byte.
func TestShiftOfAnotherKind(t *testing.T) {
	kinds := []int{4, 5, 127, 255, -1, -2, -256, 256, 257, 258, 259, 1 << 16, 1 << 32, 1<<32 + 1, math.MinInt, math.MinInt + 2, math.MaxInt}
	for _, kind := range kinds {
		rows := [][4]int{{0, 0, 0, 0}, {5, 77, 5, 77}, {255, 0, 255, 0}, {2, 128, 2, 128}, {256, 256, 0, 0}, {-1, -2, 255, 254}, {math.MinInt, math.MaxInt, 0, 255}}
		for _, row := range rows {
			if notes, value := impl.Shift(row[0], kind, row[1]); notes != row[2] || value != row[3] {
				t.Errorf("Shift(%d, %d, %d) = %d, %d, want %d, %d", row[0], kind, row[1], notes, value, row[2], row[3])
			}
		}
	}
}

func TestBitOfAllBytes(t *testing.T) {
	rows := [][4]int{{0, 1, 193, 192}, {192, 1, 2, 2}, {0, 192, 192, 192}, {0, 63, 192, 194}, {0, 0, 255, 194}, {0, 255, 0, 2}, {255, 255, 63, 61}, {1, 1, 1, 1}}
	for _, row := range rows {
		if got := impl.Bit(row[0], row[1], row[2]); got != row[3] {
			t.Errorf("Bit(%d, %d, %d) = %d, want %d", row[0], row[1], row[2], got, row[3])
		}
	}
	for a := range 256 {
		for v := range 256 {
			common := false
			for flag := 1; flag < 256; flag *= 2 {
				common = common || isNoted(a, flag) && isNoted(v, flag)
			}
			for _, p := range []int{0, 1, 2, 192, 61, 255} {
				want := noted(p, map[int]bool{2: !common, 64: isNoted(v, 64), 128: isNoted(v, 128)})
				if got := impl.Bit(p, a, v); got != want {
					t.Fatalf("Bit(%d, %d, %d) = %d, want %d", p, a, v, got, want)
				}
			}
		}
	}
}

// TestReckoningLeavesOtherNotes: no bit is noted but those that are told.
func TestReckoningLeavesOtherNotes(t *testing.T) {
	const nz, cnz, cnzv = 128 + 2, 128 + 2 + 1, 128 + 64 + 2 + 1
	for p := range 256 {
		for _, a := range someBytes() {
			for _, b := range someBytes() {
				added, _ := impl.Add(p, a, b)
				less, _ := impl.Sub(p, a, b)
				if (added^p)&^cnzv != 0 || (less^p)&^cnzv != 0 {
					t.Fatalf("notes %d are %d and %d behind Add and Sub of %d and %d", p, added, less, a, b)
				}
				if (impl.Compare(p, a, b)^p)&^cnz != 0 || (impl.Bit(p, a, b)^p)&^(nz+64) != 0 {
					t.Fatalf("notes %d are %d and %d behind Compare and Bit of %d and %d", p, impl.Compare(p, a, b), impl.Bit(p, a, b), a, b)
				}
			}
		}
	}
}

// TestReckoningTakesLowestBits: of a number that is no byte, its lowest 8 bits are meant.
func TestReckoningTakesLowestBits(t *testing.T) {
	bytes := []int{0, 1, 9, 75, 128, 153, 255}
	for _, far := range noBytes() {
		near := byteOf(far)
		for _, x := range bytes {
			for _, y := range bytes {
				checkPair(t, "Add", impl.Add, [3]int{far, x, y}, [3]int{near, x, y})
				checkPair(t, "Add", impl.Add, [3]int{x, far, y}, [3]int{x, near, y})
				checkPair(t, "Add", impl.Add, [3]int{x, y, far}, [3]int{x, y, near})
				checkPair(t, "Sub", impl.Sub, [3]int{far, x, y}, [3]int{near, x, y})
				checkPair(t, "Sub", impl.Sub, [3]int{x, far, y}, [3]int{x, near, y})
				checkPair(t, "Sub", impl.Sub, [3]int{x, y, far}, [3]int{x, y, near})
				checkOne(t, "Compare", impl.Compare, [3]int{far, x, y}, [3]int{near, x, y})
				checkOne(t, "Compare", impl.Compare, [3]int{x, far, y}, [3]int{x, near, y})
				checkOne(t, "Compare", impl.Compare, [3]int{x, y, far}, [3]int{x, y, near})
				checkOne(t, "Bit", impl.Bit, [3]int{far, x, y}, [3]int{near, x, y})
				checkOne(t, "Bit", impl.Bit, [3]int{x, far, y}, [3]int{x, near, y})
				checkOne(t, "Bit", impl.Bit, [3]int{x, y, far}, [3]int{x, y, near})
			}
			for kind := range 4 {
				checkPair(t, "Shift", impl.Shift, [3]int{far, kind, x}, [3]int{near, kind, x})
				checkPair(t, "Shift", impl.Shift, [3]int{x, kind, far}, [3]int{x, kind, near})
			}
			if impl.Nz(far, x) != impl.Nz(near, x) || impl.Nz(x, far) != impl.Nz(x, near) {
				t.Errorf("Nz of %d and %d is not that of %d", far, x, near)
			}
			for _, on := range []bool{false, true} {
				if impl.With(far, x, on) != impl.With(near, x, on) || impl.With(x, far, on) != impl.With(x, near, on) {
					t.Errorf("With of %d and %d is not that of %d", far, x, near)
				}
			}
		}
	}
}

func checkPair(t *testing.T, name string, do func(p, a, b int) (int, int), far, near [3]int) {
	t.Helper()
	wantNotes, want := do(near[0], near[1], near[2])
	if notes, value := do(far[0], far[1], far[2]); notes != wantNotes || value != want {
		t.Errorf("%s of %v = %d, %d, that of %v is %d, %d", name, far, notes, value, near, wantNotes, want)
	}
}

func checkOne(t *testing.T, name string, do func(p, a, b int) int, far, near [3]int) {
	t.Helper()
	want := do(near[0], near[1], near[2])
	if got := do(far[0], far[1], far[2]); got != want {
		t.Errorf("%s of %v = %d, that of %v is %d", name, far, got, near, want)
	}
}

// TestReckoningAnswersBytes: notes and bytes come from any numbers, and none panics.
func TestReckoningAnswersBytes(t *testing.T) {
	isByte := func(n int) bool { return n >= 0 && n < 256 }
	for _, x := range oddNumbers() {
		for _, y := range oddNumbers() {
			if !isByte(impl.Nz(x, y)) || !isByte(impl.With(x, y, true)) || !isByte(impl.With(x, y, false)) {
				t.Errorf("Nz or With of %d and %d is no byte", x, y)
			}
			for _, z := range oddNumbers() {
				sumNotes, sum := impl.Add(x, y, z)
				restNotes, rest := impl.Sub(x, y, z)
				shiftNotes, shifted := impl.Shift(x, y, z)
				for _, n := range []int{sumNotes, sum, restNotes, rest, shiftNotes, shifted, impl.Compare(x, y, z), impl.Bit(x, y, z)} {
					if !isByte(n) {
						t.Errorf("of %d, %d and %d comes %d", x, y, z, n)
					}
				}
			}
		}
	}
}
