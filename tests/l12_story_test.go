package tests

import (
	"math"
	"slices"
	"strconv"
	"strings"
	"testing"

	"loop.example/g00760/impl"
)

// allLetters are the texts of all sixteen Pins without a Port: of Nmi by 1, Irq by 2, Wait by 4, Reset by 8.
func allLetters() []string {
	return []string{"-", "n", "i", "ni", "w", "nw", "iw", "niw", "r", "nr", "ir", "nir", "wr", "nwr", "iwr", "niwr"}
}

func pinsBy(bits int, port int) impl.Pins {
	return impl.Pins{Nmi: bits&1 != 0, Irq: bits&2 != 0, Wait: bits&4 != 0, Reset: bits&8 != 0, Port: port}
}

// allPins are those with a byte Port, by their texts.
func allPins() map[string]impl.Pins {
	pins := map[string]impl.Pins{}
	for bits, letters := range allLetters() {
		pins[letters] = pinsBy(bits, 0)
		for port := 1; port < 256; port++ {
			digits := strings.ToUpper(strconv.FormatInt(int64(256+port), 16))[1:]
			pins[letters+" "+digits] = pinsBy(bits, port)
		}
	}
	return pins
}

func TestPinsTextOfEach(t *testing.T) {
	ports := []struct {
		port int
		want string
	}{
		{0, ""}, {1, " 01"}, {9, " 09"}, {10, " 0A"}, {15, " 0F"}, {16, " 10"}, {128, " 80"}, {160, " A0"}, {255, " FF"},
		{256, ""}, {257, " 01"}, {271, " 0F"}, {511, " FF"}, {512, ""}, {65536, ""}, {65551, " 0F"}, {256 * 1000003, ""},
		{-1, " FF"}, {-255, " 01"}, {-256, ""}, {-257, " FF"}, {-512, ""}, {-256 * 1000003, ""}, {1 << 32, ""}, {1<<32 + 5, " 05"},
		{math.MaxInt, " FF"}, {math.MaxInt - 255, ""}, {math.MinInt, ""}, {math.MinInt + 1, " 01"}, {math.MinInt + 256, ""},
	}
	for bits, letters := range allLetters() {
		for _, row := range ports {
			p := pinsBy(bits, row.port)
			if got := impl.PinsText(p); got != letters+row.want {
				t.Errorf("PinsText(%+v) = %q, want %q", p, got, letters+row.want)
			}
		}
	}
}

func TestPinsComeBack(t *testing.T) {
	pins := allPins()
	if len(pins) != 4096 {
		t.Fatalf("%d Pins", len(pins))
	}
	for text, p := range pins {
		if got := impl.PinsText(p); got != text {
			t.Fatalf("PinsText(%+v) = %q, want %q", p, got, text)
		}
		if got, ok := impl.ReadPins(text); !ok || got != p {
			t.Fatalf("ReadPins(%q) = %+v, %t, want %+v", text, got, ok, p)
		}
		far := p
		for _, times := range []int{-3, -1, 1, 2, 1 << 40} {
			far.Port = p.Port + 256*times
			if got, ok := impl.ReadPins(impl.PinsText(far)); !ok || got != p {
				t.Fatalf("of %+v came back %+v, %t", far, got, ok)
			}
		}
	}
}

// checkReadPins: a text is that of some Pins, or none.
func checkReadPins(t *testing.T, pins map[string]impl.Pins, text string) {
	t.Helper()
	// Of a text that isn't there, the map has the zero Pins and false, too.
	want, wantOk := pins[text]
	if got, ok := impl.ReadPins(text); got != want || ok != wantOk {
		t.Errorf("ReadPins(%q) = %+v, %t, want %+v, %t", text, got, ok, want, wantOk)
	}
}

func TestReadPinsRefuses(t *testing.T) {
	texts := []string{
		"", " ", "\t", "\n", "nn", "ii", "ww", "rr", "nin", "niwrr", "niwrn", "in", "wn", "rn", "wi", "ri", "rw", "rwin", "nwi",
		"--", "-n", "n-", "n-r", "-niwr", "niwr-", "- -", "N", "I", "W", "R", "nI", "NIWR", "e", "ne", "x", "nx", "xn", ".", "n.", "0", "1", "1 n",
		"n 0", "n 1", "n 5", "n F", "n 000", "n 001", "n 100", "n 101", "n 0FF", "n 1FF", "n 0000001", "n 00000001", "n FFF",
		"n 00", "- 00", "niwr 00", "n 0a", "n a0", "n ff", "n Ff", "n fF", "n 0G", "n g0", "n .1", "n -1", "n +1", "n 0x", "n $1", "n -", "n n",
		"n  05", "n   05", " n", "n ", " n 05", "n 05 ", "- ", " -", "-  ", "n\t05", "n\n05", "n\r05", "n \t05", "n\t 05", "\tn", "n\t", "n\n", "\nn",
		"n05", "-05", "n05 ", " 05", "05", "05 n", "n 05 06", "n 05 05", "n i", "n i 05", "n 0 5", "n 05\n", "n 05\t", "n 05\x00", "\x00", "n\x00",
		"n 05 i", "n_05", "n,05", "n\u00a005", "\u00a0", "\uff4e", "n \uff10\uff15", "n \u0660\u0665", "null", "nil",
	}
	for _, text := range texts {
		if p, ok := impl.ReadPins(text); ok || p != (impl.Pins{}) {
			t.Errorf("ReadPins(%q) = %+v, %t", text, p, ok)
		}
	}
}

// TestReadPinsOfShortTexts: all texts of some signs, right and not, so that no text has Pins but its own.
func TestReadPinsOfShortTexts(t *testing.T) {
	pins := allPins()
	for _, text := range shortTexts("niwr-", 5) {
		checkReadPins(t, pins, text)
	}
	for _, text := range shortTexts("n- 0Aa1", 6) {
		checkReadPins(t, pins, text)
	}
	for _, text := range shortTexts("n \t\n\r5F", 5) {
		checkReadPins(t, pins, text)
	}
}

// TestReadPinsOfNearTexts: right texts with one byte put in, taken out, or changed.
func TestReadPinsOfNearTexts(t *testing.T) {
	pins := allPins()
	for text := range pins {
		for at := range len(text) + 1 {
			for _, sign := range []string{"n", "i", "w", "r", "-", " ", "0", "9", "A", "a", "\t"} {
				checkReadPins(t, pins, text[:at]+sign+text[at:])
				if at < len(text) {
					checkReadPins(t, pins, text[:at]+sign+text[at+1:])
				}
			}
			if at < len(text) {
				checkReadPins(t, pins, text[:at]+text[at+1:])
			}
		}
	}
	for _, text := range []string{"-", "n", "niwr", "- 01", "niwr 0A", "iw FF"} {
		for at := range len(text) + 1 {
			for b := range 256 {
				sign := string([]byte{byte(b)})
				checkReadPins(t, pins, text[:at]+sign+text[at:])
				if at < len(text) {
					checkReadPins(t, pins, text[:at]+sign+text[at+1:])
				}
			}
		}
	}
}

// storyOf are the Pins of texts as "3 n" or "w 05", each by itself.
func storyOf(rows ...string) []impl.Pins {
	var list []impl.Pins
	for _, row := range rows {
		count, pins, has := strings.Cut(row, "*")
		if !has {
			count, pins = "1", row
		}
		n, _ := strconv.Atoi(count)
		list = append(list, slices.Repeat([]impl.Pins{pinsOf(pins)}, n)...)
	}
	return list
}

func checkStory(t *testing.T, text string, want []impl.Pins, wantOk bool) {
	t.Helper()
	got, ok := impl.ReadStory(text)
	if ok != wantOk || !slices.Equal(got, want) {
		t.Errorf("ReadStory(%.60q) has %d clocks, %t, want %d, %t", text, len(got), ok, len(want), wantOk)
	}
}

func TestReadStory(t *testing.T) {
	rows := []struct {
		text string
		want []impl.Pins
	}{
		{"", nil}, {"\n", nil}, {"\n\n\n", nil}, {" ", nil}, {"\t", nil}, {" \t \n\t\n  ", nil},
		{"-", storyOf("-")}, {"n", storyOf("n")}, {"niwr", storyOf("niwr")}, {"w 05", storyOf("w 05")}, {"- FF", storyOf("- FF")},
		{"1 -", storyOf("-")}, {"1 n", storyOf("n")}, {"2 n", storyOf("n", "n")}, {"3 w 05", storyOf("3*w 05")}, {"3 - 80", storyOf("3*- 80")},
		{"10 -", storyOf("10*-")}, {"9 ir 0A", storyOf("9*ir 0A")}, {"12 niwr FF", storyOf("12*niwr FF")},
		{"n\ni", storyOf("n", "i")}, {"i\nn", storyOf("i", "n")}, {"n\n", storyOf("n")}, {"\nn", storyOf("n")}, {"n\n\n\ni", storyOf("n", "i")},
		{"2 n\n3 i 01\n-\n2 w", storyOf("2*n", "3*i 01", "-", "2*w")}, {"n\n \t\ni\n\t", storyOf("n", "i")},
		{" n", storyOf("n")}, {"n ", storyOf("n")}, {"\tn\t", storyOf("n")}, {"  2\t \tn \t 05 ", storyOf("2*n 05")}, {"w\t05", storyOf("w 05")},
		{"w   05", storyOf("w 05")}, {"\t2\tw\t05\t", storyOf("2*w 05")}, {"2  -", storyOf("2*-")},
	}
	for _, row := range rows {
		checkStory(t, row.text, row.want, true)
	}
}

func TestReadStoryRefuses(t *testing.T) {
	lines := []string{
		"0 -", "0 n", "0", "00 -", "01 n", "001 n", "-1 n", "+1 n", "1. n", "1x n", "x1 n", "1,0 n", "401 -", "402 n 05", "4000 -", "999999999 -", "1000000000 -",
		"4294967297 -", "18446744073709551617 -", "9223372036854775807 -", "9223372036854775808 -", "-9223372036854775808 -", "1e2 -", "0x1 -", "1_0 -", "\u0661 n",
		"1", "3", "400", "401", "3 3", "3 3 n", "1 1 -", "3 x", "3 05", "3 05 n", "05", "05 n", "n 3", "n 3 i", "- 3", "n 1", "x", "x n", "n x", "3 n x", "3 x n",
		"1 n 0", "1 n 00", "n 00", "n 0a", "n 005", "n 05 06", "n 05 n", "1 n 05 06", "1 n 05 3", "n i", "n n", "- -", "n -", "2 n i", "2 n - 05", "nn", "in", "n-", "N", "1 N",
		"n\r", "\r", "n \r", "3\rn", "n\r05", "3 n\r", "n\v", "\fn", "n\u00a005", "\u2028", "n\x00", "n;", "; n", ";", "# n", "n,i", "ni,", "3n", "3*n", "3-", "3 -1",
	}
	for _, line := range lines {
		for _, text := range []string{line, "n\n" + line, line + "\nn", "\n" + line, line + "\n", "2 n\n\n" + line + "\n3 i 05", " " + line, line + "\t", "400 -\n" + line, line + "\n" + line} {
			checkStory(t, text, nil, false)
		}
	}
	// These have Words or a newline too many in themselves, but are nothing else.
	for _, text := range []string{"n\n3", "3\nn", "n\n05", "2 n\n05", "n\nx", "x\nn", "n 0\n5"} {
		checkStory(t, text, nil, false)
	}
}

// TestReadStoryToItsEnd: as many as MaxClocks, and one more, however they are told.
func TestReadStoryToItsEnd(t *testing.T) {
	if impl.MaxClocks != 400 {
		t.Fatalf("MaxClocks is %d", impl.MaxClocks)
	}
	rows := []struct {
		text string
		want []impl.Pins
	}{
		{"400 n", storyOf("400*n")}, {"399 n", storyOf("399*n")}, {"399 n\ni", storyOf("399*n", "i")}, {"i\n399 n", storyOf("i", "399*n")},
		{"400 n\n", storyOf("400*n")}, {"400 n\n \n\t\n", storyOf("400*n")}, {"200 n\n\n200 i 05", storyOf("200*n", "200*i 05")},
		{"1 n\n398 i\n1 w", storyOf("n", "398*i", "w")}, {strings.Repeat("w 80\n", 400), storyOf("400*w 80")},
		{strings.Repeat("2 r\n\n", 200), storyOf("400*r")}, {strings.Repeat("\n", 5000) + "400 -" + strings.Repeat("\n", 5000), storyOf("400*-")},
	}
	for _, row := range rows {
		checkStory(t, row.text, row.want, true)
		for _, more := range []string{"i", "1*w 05", "2*-", "400*n"} {
			want := slices.Concat(row.want, storyOf(more))
			if len(want) > 400 {
				want = nil
			}
			checkStory(t, row.text+"\n"+strings.Replace(more, "*", " ", 1), want, want != nil)
		}
	}
	for _, text := range []string{"401 -", strings.Repeat("w\n", 401), strings.Repeat("400 r\n", 5000), strings.Repeat("n\n", 5000) + "x", "400 -\n\n1 n", "x\n400 -\n400 -"} {
		checkStory(t, text, nil, false)
	}
}

// allCounts are those that a line may begin with, by their texts.
func allCounts() map[string]int {
	counts := map[string]int{}
	for n := 1; n <= 400; n++ {
		counts[strconv.Itoa(n)] = n
	}
	return counts
}

// storyTold is a story by its words, by the lists of all Pins and counts and nothing of the program.
func storyTold(pins map[string]impl.Pins, counts map[string]int, text string) ([]impl.Pins, bool) {
	var list []impl.Pins
	for line := range strings.SplitSeq(text, "\n") {
		words := strings.FieldsFunc(line, func(r rune) bool { return r == 32 || r == 9 })
		if len(words) == 0 {
			continue
		}
		count := counts[words[0]]
		if count > 0 {
			words = words[1:]
		}
		p, ok := pins[strings.Join(words, " ")]
		if !ok {
			return nil, false
		}
		list = append(list, slices.Repeat([]impl.Pins{p}, max(count, 1))...)
	}
	if len(list) > 400 {
		return nil, false
	}
	return list, true
}

// mixedStory has mostly right lines, and so many clocks that some stories have too many.
func mixedStory(next func(int) int, letters []string) string {
	gaps := []string{" ", " ", " ", "\t", "  ", " \t "}
	odd := []string{"x", "3", "0", "00", "0a", "n ", "\r", "401", "nn", "-", "05", "FFF"}
	var text strings.Builder
	for range next(9) {
		var words []string
		if next(2) == 0 {
			words = append(words, strconv.Itoa(next([]int{4, 100, 402}[next(3)])))
		}
		if next(8) > 0 {
			words = append(words, letters[next(16)])
		}
		if next(2) == 0 {
			words = append(words, impl.HexText(next(300), 2))
		}
		if next(30) == 0 {
			words = slices.Insert(words, next(len(words)+1), odd[next(len(odd))])
		}
		if next(8) == 0 {
			words = []string{"", ""}
		}
		text.WriteString(strings.Join(words, gaps[next(len(gaps))]))
		text.WriteString([]string{"", "", "", " ", "\t"}[next(5)])
		text.WriteString("\n")
	}
	return text.String()
}

func TestReadStoryOfMixedTexts(t *testing.T) {
	pins, counts, letters := allPins(), allCounts(), allLetters()
	read := 0
	for seed := range 20000 {
		text := mixedStory(numbersFrom(440000+seed), letters)
		want, wantOk := storyTold(pins, counts, text)
		checkStory(t, text, want, wantOk)
		if wantOk {
			read++
		}
	}
	if read < 3000 || read > 17000 {
		t.Errorf("%d of the texts are stories", read)
	}
	for _, text := range shortTexts("n-2 0\n", 6) {
		want, wantOk := storyTold(pins, counts, text)
		checkStory(t, text, want, wantOk)
	}
}

// TestStoriesAreTheirLines: the Pins of two texts, one behind the other, are those of both; and each of the Pins, told by
// its PinsText, comes back at its own place.
func TestStoriesAreTheirLines(t *testing.T) {
	letters := allLetters()
	for seed := range 3000 {
		next := numbersFrom(550000 + seed)
		first, second := mixedStory(next, letters), mixedStory(next, letters)
		a, aOk := impl.ReadStory(first)
		b, bOk := impl.ReadStory(second)
		both := slices.Concat(a, b)
		if !aOk || !bOk || len(both) > 400 {
			checkStory(t, first+second, nil, false)
			continue
		}
		checkStory(t, first+second, both, true)
		var lines []string
		for _, p := range both {
			lines = append(lines, impl.PinsText(p))
		}
		checkStory(t, strings.Join(lines, "\n"), both, true)
	}
}

// checkRun: Run is Clock of each of the Pins, and not more than MaxClocks of them.
func checkRun(t *testing.T, what string, b impl.Board, list []impl.Pins) {
	t.Helper()
	want, kept := b, slices.Clone(list)
	var ticks []impl.Tick
	for i, p := range list {
		if i < 400 {
			var tick impl.Tick
			want, tick = impl.Clock(want, p)
			ticks = append(ticks, tick)
		}
	}
	got, gotTicks := impl.Run(b, list)
	if !slices.Equal(gotTicks, ticks) {
		t.Errorf("%s: %d Ticks, want %d: %s, want %s", what, len(gotTicks), len(ticks), shownAll(gotTicks), shownAll(ticks))
	}
	checkBoard(t, what, got, want)
	if !slices.Equal(list, kept) {
		t.Errorf("%s: the list is another one behind", what)
	}
}

func shownAll(ticks []impl.Tick) string {
	var shown []string
	for _, tick := range ticks {
		shown = append(shown, tickShown(tick))
	}
	return strings.Join(shown, " ")
}

// TestRunOfProgram has its Ticks written by hand.
func TestRunOfProgram(t *testing.T) {
	b := programBoard(t, 1, 0, "0200 A9058520C6204C0202")
	now := b.Now
	rows := []struct {
		list  []impl.Pins
		ticks string
		a     int
		at20  int
	}{
		{nil, "", b.Core.Regs.A, 0},
		{storyOf("-"), "0200rA9cF", b.Core.Regs.A, 0},
		{storyOf("2*-"), "0200rA9cF 0201r05c", 5, 0},
		{storyOf("5*-"), "0200rA9cF 0201r05c 0202r85cF 0203r20c 0020w05c", 5, 5},
		{storyOf("-", "w", "2*-"), "0200rA9cF 0201rA9w 0201r05c 0202r85cF", 5, 0},
		{storyOf("-", "3*w", "-"), "0200rA9cF 0201rA9w 0201r05c 0202r05w 0202r85cF", 5, 0},
		{storyOf("4*-", "w", "n", "-"), "0200rA9cF 0201r05c 0202r85cF 0203r20c 0020w05c 0204rC6cF 0205r20cn", 5, 5},
	}
	for _, row := range rows {
		got, ticks := impl.Run(b, row.list)
		if shownAll(ticks) != row.ticks || len(ticks) != len(row.list) {
			t.Errorf("%d clocks: %s, want %s", len(row.list), shownAll(ticks), row.ticks)
		}
		if got.Core.Regs.A != row.a || impl.Peek(got.Mem, 0x20, 0) != row.at20 || got.Now != now+len(row.list) {
			t.Errorf("%d clocks: %+v", len(row.list), got)
		}
		checkRun(t, row.ticks, b, row.list)
	}
}

func TestRunOfManyAndFew(t *testing.T) {
	for _, count := range []int{0, 1, 2, 399, 400, 401, 402, 800, 5000} {
		b := programBoard(t, 2, 3, heldUp()...)
		b.Keeper.Left = 200
		next := numbersFrom(count)
		list := make([]impl.Pins, count)
		for i := range list {
			list[i] = mixedPins(next)
		}
		what := strconv.Itoa(count) + " clocks"
		checkRun(t, what, b, list)
		got, ticks := impl.Run(b, list)
		if len(ticks) != min(count, 400) || got.Now != b.Now+min(count, 400) {
			t.Errorf("%s: %d Ticks, Now is %d", what, len(ticks), got.Now)
		}
		// What stands beyond MaxClocks has no part in it.
		first, firstTicks := impl.Run(b, list[:min(count, 400)])
		if first != got || !slices.Equal(ticks, firstTicks) {
			t.Errorf("%s: another one than %d", what, min(count, 400))
		}
	}
	b := programBoard(t, 2, 3, heldUp()...)
	for _, list := range [][]impl.Pins{nil, {}, make([]impl.Pins, 0, 8)} {
		if got, ticks := impl.Run(b, list); got != b || len(ticks) != 0 {
			t.Errorf("of no Pins: %+v, %s", got, shownAll(ticks))
		}
	}
}

func TestRunOfMixedBoards(t *testing.T) {
	list := allListed(t)
	for seed := range 150 {
		next := numbersFrom(660000 + seed)
		b := mixedBoard(next, list)
		pins := make([]impl.Pins, next(60))
		for i := range pins {
			pins[i] = mixedPins(next)
		}
		what := "seed " + strconv.Itoa(seed)
		checkRun(t, what, b, pins)
		// A part of it and the rest are all of it.
		at := next(len(pins) + 1)
		all, allTicks := impl.Run(b, pins)
		part, partTicks := impl.Run(b, pins[:at])
		rest, restTicks := impl.Run(part, pins[at:])
		if rest != all || !slices.Equal(slices.Concat(partTicks, restTicks), allTicks) {
			t.Errorf("%s: the first %d and the rest are another one", what, at)
		}
		if !impl.BoardOk(all) {
			t.Errorf("%s: isn't right", what)
		}
	}
}

// TestRunOfWrongBoards: it stays as it was, with as many zero Ticks as Pins, as each Clock has it.
func TestRunOfWrongBoards(t *testing.T) {
	boards := append(wrongBoards(baseBoard(t)), impl.Board{})
	for i, b := range boards {
		for _, count := range []int{0, 1, 3, 400, 401} {
			got, ticks := impl.Run(b, storyOf(strconv.Itoa(count)+"*niwr FF"))
			if got != b || !slices.Equal(ticks, make([]impl.Tick, min(count, 400))) {
				t.Errorf("board %d, %d clocks: %+v, %s", i, count, got, shownAll(ticks))
			}
		}
	}
}

func TestStoryListsAreNew(t *testing.T) {
	first, _ := impl.ReadStory("3 n 05\ni")
	for i := range first {
		first[i] = impl.Pins{Port: 77}
	}
	checkStory(t, "3 n 05\ni", storyOf("3*n 05", "i"), true)

	b := programBoard(t, 1, 1, heldUp()...)
	room := storyOf("10*-", "3*niwr FF")
	list := room[:10]
	_, ticks := impl.Run(b, list)
	shown := shownAll(ticks)
	_ = append(ticks, impl.Tick{Addr: 5})
	for i := range ticks {
		ticks[i] = impl.Tick{Data: 9}
	}
	if _, again := impl.Run(b, list); shownAll(again) != shown {
		t.Errorf("behind a change of the first answer: %s, want %s", shownAll(again), shown)
	}
	if !slices.Equal(room, storyOf("10*-", "3*niwr FF")) {
		t.Errorf("the list or what stands behind it: %+v", room)
	}
}

func TestTickTextOfEach(t *testing.T) {
	rows := []struct {
		tick impl.Tick
		want string
	}{
		{impl.Tick{}, "0000 00 R.c.."},
		{impl.Tick{Write: true}, "0000 00 W.c.."},
		{impl.Tick{Fetch: true}, "0000 00 RFc.."},
		{impl.Tick{Nmi: true}, "0000 00 R.cn."},
		{impl.Tick{Irq: true}, "0000 00 R.c.i"},
		{impl.Tick{Owner: impl.OwCore}, "0000 00 R.c.."},
		{impl.Tick{Owner: impl.OwWait}, "0000 00 R.w.."},
		{impl.Tick{Owner: impl.OwCopy}, "0000 00 R.k.."},
		{impl.Tick{Owner: 3}, "0000 00 R.?.."},
		{impl.Tick{Owner: -1}, "0000 00 R.?.."},
		{impl.Tick{Owner: 256}, "0000 00 R.?.."},
		{impl.Tick{Owner: 257}, "0000 00 R.?.."},
		{impl.Tick{Owner: math.MaxInt}, "0000 00 R.?.."},
		{impl.Tick{Owner: math.MinInt}, "0000 00 R.?.."},
		{impl.Tick{Addr: 1}, "0001 00 R.c.."},
		{impl.Tick{Addr: 0xABCD}, "ABCD 00 R.c.."},
		{impl.Tick{Addr: 65535}, "FFFF 00 R.c.."},
		{impl.Tick{Addr: 65536}, "0000 00 R.c.."},
		{impl.Tick{Addr: 65537 + 65536*1000}, "0001 00 R.c.."},
		{impl.Tick{Addr: -1}, "FFFF 00 R.c.."},
		{impl.Tick{Addr: -65535}, "0001 00 R.c.."},
		{impl.Tick{Addr: math.MaxInt}, "FFFF 00 R.c.."},
		{impl.Tick{Addr: math.MinInt}, "0000 00 R.c.."},
		{impl.Tick{Data: 1}, "0000 01 R.c.."},
		{impl.Tick{Data: 0xAF}, "0000 AF R.c.."},
		{impl.Tick{Data: 255}, "0000 FF R.c.."},
		{impl.Tick{Data: 256}, "0000 00 R.c.."},
		{impl.Tick{Data: 300}, "0000 2C R.c.."},
		{impl.Tick{Data: -1}, "0000 FF R.c.."},
		{impl.Tick{Data: -256}, "0000 00 R.c.."},
		{impl.Tick{Data: math.MaxInt}, "0000 FF R.c.."},
		{impl.Tick{Data: math.MinInt + 10}, "0000 0A R.c.."},
		{impl.Tick{Addr: 0x1234, Data: 0x56, Write: true, Fetch: true, Owner: 2, Nmi: true, Irq: true}, "1234 56 WFkni"},
		{impl.Tick{Addr: 0xFE, Data: 0x100, Fetch: true, Owner: 7, Nmi: true}, "00FE 00 RF?n."},
		{impl.Tick{Addr: 0x200, Data: 9, Write: true, Owner: 1, Irq: true}, "0200 09 W.w.i"},
	}
	for _, row := range rows {
		if got := impl.TickText(row.tick); got != row.want {
			t.Errorf("TickText(%+v) = %q, want %q", row.tick, got, row.want)
		}
	}
}

func TestTickTextOfAllSigns(t *testing.T) {
	for bits := range 16 {
		for owner := -3; owner < 6; owner++ {
			tick := impl.Tick{Addr: 0x0F1E + bits<<16, Data: 0x2D - bits<<8, Owner: owner}
			tick.Write, tick.Fetch, tick.Nmi, tick.Irq = bits&1 != 0, bits&2 != 0, bits&4 != 0, bits&8 != 0
			letter := "?"
			if owner >= 0 && owner < 3 {
				letter = []string{"c", "w", "k"}[owner]
			}
			want := "0F1E 2D " + []string{"R", "W"}[bits&1] + []string{".", "F"}[bits>>1&1] + letter + []string{".", "n"}[bits>>2&1] + []string{".", "i"}[bits>>3]
			if got := impl.TickText(tick); got != want {
				t.Errorf("TickText(%+v) = %q, want %q", tick, got, want)
			}
		}
	}
}

// TestStoryOfProgram: from a text to texts, as a whole.
func TestStoryOfProgram(t *testing.T) {
	list, ok := impl.ReadStory("3 -\nw\n\n2 n 0F\ni\n- 80\n")
	if !ok {
		t.Fatal("no story")
	}
	b := programBoard(t, 1, 0, "0200 AD0020EAEA", "0300 40")
	b.Chip.Port, b.Chip.Dir = 0x50, 0xF0
	_, ticks := impl.Run(b, list)
	want := []string{
		"0200 AD RFc..", "0201 00 R.c..", "0202 20 R.c..", "2000 20 R.w..", "2000 5F R.c..", "0203 EA RFcn.", "0204 EA R.cn.", "0204 EA RFc.i",
	}
	var got []string
	for _, tick := range ticks {
		got = append(got, impl.TickText(tick))
	}
	if !slices.Equal(got, want) {
		t.Errorf("%q, want %q", got, want)
	}
}

// TestStoryAnswersAlways: a panic fails the test; the same question has the same answer.
func TestStoryAnswersAlways(t *testing.T) {
	for _, text := range oddTexts() {
		for _, asked := range []string{text, text + " " + text, "n " + text, "1 " + text, text + " n", "n\n" + text, text + "\nn", "1 n\t" + text} {
			p, ok := impl.ReadPins(asked)
			again, okAgain := impl.ReadPins(asked)
			if p != again || ok != okAgain || !ok && p != (impl.Pins{}) || ok && impl.PinsText(p) != asked {
				t.Errorf("ReadPins(%.40q) = %+v, %t", asked, p, ok)
			}
			list, ok := impl.ReadStory(asked)
			listAgain, okAgain := impl.ReadStory(asked)
			if !slices.Equal(list, listAgain) || ok != okAgain || !ok && len(list) > 0 || len(list) > 400 {
				t.Errorf("ReadStory(%.40q) has %d clocks, %t", asked, len(list), ok)
			}
		}
	}
	for _, n := range oddNumbers() {
		p := impl.Pins{Wait: true, Port: n}
		if text := impl.PinsText(p); text != impl.PinsText(impl.Pins{Wait: true, Port: byteOf(n)}) {
			t.Errorf("PinsText with port %d is %q", n, text)
		}
		for _, m := range oddNumbers() {
			tick := impl.Tick{Addr: n, Data: m, Owner: 1}
			if text := impl.TickText(tick); text != impl.TickText(impl.Tick{Addr: addressOf(n), Data: byteOf(m), Owner: 1}) {
				t.Errorf("TickText(%+v) is %q", tick, text)
			}
			if text := impl.TickText(impl.Tick{Owner: n}); len(text) != len("0000 00 R.c..") {
				t.Errorf("TickText of owner %d is %q", n, text)
			}
		}
		b := baseBoard(t)
		checkRun(t, "port "+strconv.Itoa(n), b, []impl.Pins{p, {Nmi: true, Port: n}, {Reset: true, Port: n}})
		b.Now = n
		checkRun(t, "now "+strconv.Itoa(n), b, storyOf("3*n"))
	}
}
