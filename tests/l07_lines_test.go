package tests

import (
	"math"
	"strings"
	"sync"
	"testing"

	"loop.example/g00760/impl"
)

// allWires are the eight that there can be.
func allWires() []impl.Wires {
	var all []impl.Wires
	for _, nmi := range []bool{false, true} {
		for _, edge := range []bool{false, true} {
			for _, irq := range []bool{false, true} {
				all = append(all, impl.Wires{Nmi: nmi, Edge: edge, Irq: irq})
			}
		}
	}
	return all
}

// wiresOf reads n, e and i of those that are so, as a bench writes them.
func wiresOf(s string) impl.Wires {
	return impl.Wires{
		Nmi:  strings.Contains(s, "n"),
		Edge: strings.Contains(s, "e"),
		Irq:  strings.Contains(s, "i"),
	}
}

// takenOf tells the chapter's words on Take in another way than the program: by the eight Wires.
func takenOf(l impl.Wires, p int) int {
	masked := isNoted(byteOf(p), 4)
	switch l {
	case wiresOf("e"), wiresOf("ne"), wiresOf("ei"), wiresOf("nei"):
		return impl.TaNmi
	case wiresOf("i"), wiresOf("ni"):
		if !masked {
			return impl.TaIrq
		}
	}
	return impl.TaNone
}

func checkWires(t *testing.T, what string, got, want impl.Wires) {
	t.Helper()
	if got != want {
		t.Errorf("%s: got %+v, want %+v", what, got, want)
	}
}

// sensed is the Wires behind lines of the first kind, each letter one: L where it is low.
func sensed(l impl.Wires, lines string) impl.Wires {
	for _, line := range lines {
		l = impl.Sense(l, line == 'L', false)
	}
	return l
}

// linesOf is a text of so many letters, H or L by the bits of a number.
func linesOf(bits, count int) string {
	text := make([]byte, count)
	for i := range text {
		text[i] = "HL"[bits>>i&1]
	}
	return string(text)
}

// TestSenseOfAllWires is written out: all eight Wires with each of the four pairs of lines.
func TestSenseOfAllWires(t *testing.T) {
	rows := []struct{ l, none, nmi, irq, both string }{
		{"", "", "ne", "i", "nei"},
		{"i", "", "ne", "i", "nei"},
		{"e", "e", "ne", "ei", "nei"},
		{"ei", "e", "ne", "ei", "nei"},
		{"n", "", "n", "i", "ni"},
		{"ni", "", "n", "i", "ni"},
		{"ne", "e", "ne", "ei", "nei"},
		{"nei", "e", "ne", "ei", "nei"},
	}
	for _, row := range rows {
		l := wiresOf(row.l)
		checkWires(t, "Sense of "+row.l+" with none", impl.Sense(l, false, false), wiresOf(row.none))
		checkWires(t, "Sense of "+row.l+" with nmi", impl.Sense(l, true, false), wiresOf(row.nmi))
		checkWires(t, "Sense of "+row.l+" with irq", impl.Sense(l, false, true), wiresOf(row.irq))
		checkWires(t, "Sense of "+row.l+" with both", impl.Sense(l, true, true), wiresOf(row.both))
	}
}

// TestFallOfLine: it falls, stays low, rises and falls again, taken between and not.
func TestFallOfLine(t *testing.T) {
	l := impl.Sense(impl.Wires{}, true, false)
	checkWires(t, "it falls", l, wiresOf("ne"))
	l = impl.Sense(l, true, false)
	checkWires(t, "it stays low, not taken", l, wiresOf("ne"))
	l = impl.Taken(l)
	checkWires(t, "it is taken", l, wiresOf("n"))
	l = sensed(l, "LLL")
	checkWires(t, "it stays low, taken", l, wiresOf("n"))
	l = impl.Sense(l, false, false)
	checkWires(t, "it rises", l, wiresOf(""))
	l = impl.Sense(l, true, false)
	checkWires(t, "it falls again", l, wiresOf("ne"))
	l = impl.Sense(l, false, false)
	checkWires(t, "it rises, not taken", l, wiresOf("e"))
	l = sensed(l, "HHH")
	checkWires(t, "it stays high, not taken", l, wiresOf("e"))
	l = impl.Taken(l)
	checkWires(t, "it is taken while it is high", l, wiresOf(""))
	checkWires(t, "it stays high, taken", impl.Sense(l, false, false), wiresOf(""))
}

// TestLineFallsTwice: two falls ahead of one taking are noted once; one fall behind it is noted anew.
func TestLineFallsTwice(t *testing.T) {
	for _, lines := range []string{"LHL", "LHLHL", "LLHHLL", "LHLHLHLHLHLHL"} {
		l := sensed(impl.Wires{}, lines)
		checkWires(t, lines, l, wiresOf("ne"))
		l = impl.Taken(l)
		checkWires(t, lines+", taken", l, wiresOf("n"))
		if take := impl.Take(l, 0); take != impl.TaNone {
			t.Errorf("%s, taken: Take is %d", lines, take)
		}
		checkWires(t, lines+", taken, low", sensed(l, "LL"), wiresOf("n"))
		checkWires(t, lines+", taken, high", sensed(l, "HH"), wiresOf(""))
		checkWires(t, lines+", taken, falls", sensed(l, "HL"), wiresOf("ne"))
	}
}

// TestFallsAreTakenOnce counts: a line that is looked at behind each clock is taken as often as it fell.
func TestFallsAreTakenOnce(t *testing.T) {
	const clocks = 12
	for bits := range 1 << clocks {
		lines := linesOf(bits, clocks)
		l, takes := impl.Wires{}, 0
		for _, line := range lines {
			l = impl.Sense(l, line == 'L', bits%3 == 0)
			if impl.Take(l, 4) == impl.TaNmi {
				l = impl.Taken(l)
				takes++
			}
		}
		if want := strings.Count("H"+lines, "HL"); takes != want {
			t.Fatalf("%s: taken %d times, want %d", lines, takes, want)
		}
	}
}

// TestFallsAreNotedUntilTaken: at all lines, with all ways to take between them, Edge is so just where
// there is a fall behind which nothing was taken.
func TestFallsAreNotedUntilTaken(t *testing.T) {
	const clocks = 8
	for bits := range 1 << clocks {
		lines := linesOf(bits, clocks)
		for taken := range 1 << clocks {
			l, from := impl.Wires{}, 0
			for i := range clocks {
				l = impl.Sense(l, lines[i] == 'L', false)
				// The one ahead of the first line counts as high.
				want := strings.Contains(("H" + lines)[from:i+2], "HL")
				if l.Edge != want || l.Nmi != (lines[i] == 'L') || l.Irq {
					t.Fatalf("%s, taken %b, at %d: %+v, want Edge %t", lines, taken, i, l, want)
				}
				if taken>>i&1 == 1 {
					l, from = impl.Taken(l), i+1
				}
			}
		}
	}
}

// TestSecondLineIsNotNoted: it counts as long as it is low, and neither asks nor clears anything of the first one.
func TestSecondLineIsNotNoted(t *testing.T) {
	for _, l := range allWires() {
		low := impl.Sense(l, l.Nmi, true)
		want := impl.Wires{Nmi: l.Nmi, Edge: l.Edge, Irq: true}
		checkWires(t, "low", low, want)
		checkWires(t, "low and taken", impl.Taken(low), impl.Wires{Nmi: l.Nmi, Irq: true})
		checkWires(t, "still low", impl.Sense(impl.Taken(low), l.Nmi, true), impl.Wires{Nmi: l.Nmi, Irq: true})
		checkWires(t, "high again", impl.Sense(low, l.Nmi, false), impl.Wires{Nmi: l.Nmi, Edge: l.Edge})
	}
	l := wiresOf("i")
	for range 3 {
		if take := impl.Take(l, 0); take != impl.TaIrq {
			t.Errorf("Take of a line that is low is %d", take)
		}
		l = impl.Sense(impl.Taken(l), false, true)
	}
	if take := impl.Take(impl.Sense(l, false, false), 0); take != impl.TaNone {
		t.Errorf("Take of a line that isn't low any more is %d", take)
	}
}

func TestTakeOfSome(t *testing.T) {
	rows := []struct {
		l       string
		p, want int
	}{
		{"", 0, 0}, {"", 4, 0}, {"", 255, 0},
		{"n", 0, 0}, {"n", 4, 0}, {"n", 251, 0},
		{"i", 0, 1}, {"i", 4, 0}, {"i", 251, 1}, {"i", 255, 0}, {"i", 2, 1}, {"i", 8, 1}, {"i", 16, 1},
		{"ni", 0, 1}, {"ni", 4, 0}, {"ni", 36, 0}, {"ni", 32, 1},
		{"e", 0, 2}, {"e", 4, 2}, {"ne", 0, 2}, {"ne", 4, 2},
		{"ei", 0, 2}, {"ei", 4, 2}, {"nei", 0, 2}, {"nei", 4, 2}, {"nei", 255, 2},
	}
	for _, row := range rows {
		if got := impl.Take(wiresOf(row.l), row.p); got != row.want {
			t.Errorf("Take(%q, %d) = %d, want %d", row.l, row.p, got, row.want)
		}
	}
}

func TestTakeOfAllWiresAndNotes(t *testing.T) {
	for _, l := range allWires() {
		for p := range 256 {
			if got, want := impl.Take(l, p), takenOf(l, p); got != want {
				t.Errorf("Take(%+v, %d) = %d, want %d", l, p, got, want)
			}
		}
	}
}

// TestTakeByLowestBits: of a number given for notes the lowest 8 bits are meant.
func TestTakeByLowestBits(t *testing.T) {
	numbers := append(noBytes(), 260, 251+256, -252, -5, 4+1<<40, math.MinInt+4, math.MaxInt-4)
	for _, l := range allWires() {
		for _, p := range numbers {
			if got, want := impl.Take(l, p), impl.Take(l, byteOf(p)); got != want || got != takenOf(l, p) {
				t.Errorf("Take(%+v, %d) = %d, want %d", l, p, got, want)
			}
		}
		for p := -1024; p < 1024; p++ {
			if got, want := impl.Take(l, p), takenOf(l, p); got != want {
				t.Errorf("Take(%+v, %d) = %d, want %d", l, p, got, want)
			}
		}
	}
	rows := []struct{ p, want int }{
		{math.MinInt, impl.TaIrq}, {math.MaxInt, impl.TaNone}, {-1, impl.TaNone}, {-5, impl.TaIrq},
		{256, impl.TaIrq}, {260, impl.TaNone}, {-256, impl.TaIrq}, {-252, impl.TaNone}, {1024, impl.TaIrq},
	}
	for _, row := range rows {
		if got := impl.Take(wiresOf("i"), row.p); got != row.want {
			t.Errorf("Take of a line that is low, with %d, is %d, want %d", row.p, got, row.want)
		}
	}
}

// TestTakeIsNoChance: where both ask, the same one is taken however often that is asked, and by however many at once.
func TestTakeIsNoChance(t *testing.T) {
	both := wiresOf("nei")
	var group sync.WaitGroup
	for range 8 {
		group.Go(func() {
			for i := range 1000 {
				if take := impl.Take(both, i); take != impl.TaNmi {
					t.Errorf("Take of both, at %d, is %d", i, take)
				}
				if l := impl.Sense(both, i%2 == 0, true); l != (impl.Wires{Nmi: i%2 == 0, Edge: true, Irq: true}) {
					t.Errorf("Sense of both, at %d, is %+v", i, l)
				}
			}
		})
	}
	group.Wait()
}

// TestBothAsk: the first line is taken, and then, where it isn't masked, the second one.
func TestBothAsk(t *testing.T) {
	for p, next := range map[int]int{0: impl.TaIrq, 4: impl.TaNone, 251: impl.TaIrq, 255: impl.TaNone} {
		l := impl.Sense(impl.Wires{}, true, true)
		if take := impl.Take(l, p); take != impl.TaNmi {
			t.Errorf("Take of both with %d is %d", p, take)
		}
		if take := impl.Take(impl.Taken(l), p); take != next {
			t.Errorf("Take behind the first one with %d is %d, want %d", p, take, next)
		}
	}
}

func TestTakenOfAllWires(t *testing.T) {
	rows := map[string]string{"": "", "n": "n", "i": "i", "ni": "ni", "e": "", "ne": "n", "ei": "i", "nei": "ni"}
	for l, want := range rows {
		checkWires(t, "Taken of "+l, impl.Taken(wiresOf(l)), wiresOf(want))
		checkWires(t, "Taken twice of "+l, impl.Taken(impl.Taken(wiresOf(l))), wiresOf(want))
	}
}

func TestVectorOfTakes(t *testing.T) {
	rows := []struct{ take, want int }{
		{impl.TaNone, 0xFFFE}, {impl.TaIrq, 0xFFFE}, {impl.TaNmi, 0xFFFA}, {impl.TaReset, 0xFFFC},
	}
	for _, row := range rows {
		if got := impl.Vector(row.take); got != row.want {
			t.Errorf("Vector(%d) = %d, want %d", row.take, got, row.want)
		}
	}
	if impl.TaNone != 0 || impl.TaIrq != 1 || impl.TaNmi != 2 || impl.TaReset != 3 {
		t.Error("what is taken has other numbers")
	}
}

// TestVectorOfOtherNumbers: a take is no byte, so those whose lowest bits are a take's lead elsewhere, too.
func TestVectorOfOtherNumbers(t *testing.T) {
	for take := -1100; take <= 1100; take++ {
		if take == 2 || take == 3 {
			continue
		}
		if got := impl.Vector(take); got != 0xFFFE {
			t.Errorf("Vector(%d) = %d", take, got)
		}
	}
	others := append(noBytes(), 65536+2, 65536+3, 1<<32+2, 1<<32+3, math.MinInt+2, math.MinInt+3)
	for _, take := range others {
		if got := impl.Vector(take); got != 0xFFFE {
			t.Errorf("Vector(%d) = %d", take, got)
		}
	}
}

// TestLinesAnswerAlways: a panic, or a call that never ends, fails the test; the same question has the same answer.
func TestLinesAnswerAlways(t *testing.T) {
	for _, l := range allWires() {
		kept := l
		for _, n := range append(oddNumbers(), noBytes()...) {
			take := impl.Take(l, n)
			if take != impl.Take(l, n) || take < impl.TaNone || take > impl.TaNmi {
				t.Errorf("Take(%+v, %d) = %d", l, n, take)
			}
			if v := impl.Vector(n); v != impl.Vector(n) {
				t.Errorf("Vector(%d) = %d", n, v)
			}
		}
		for pair := range 4 {
			nmi, irq := pair&1 != 0, pair&2 != 0
			checkWires(t, "Sense again", impl.Sense(l, nmi, irq), impl.Sense(l, nmi, irq))
		}
		checkWires(t, "Taken again", impl.Taken(l), impl.Taken(l))
		checkWires(t, "the argument", l, kept)
	}
}
