package tests

import (
	"math"
	"runtime"
	"slices"
	"strconv"
	"strings"
	"sync"
	"testing"

	"loop.example/g00760/impl"
)

// ticksOf reads words as "cF", "3*wn" or "kW": the Owner (7 of ?, -1 of <), behind it F, W, n and i of what is so.
func ticksOf(text string) []impl.Tick {
	var list []impl.Tick
	for _, word := range strings.Fields(text) {
		count, signs, has := strings.Cut(word, "*")
		if !has {
			count, signs = "1", word
		}
		owners := map[byte]int{'c': impl.OwCore, 'w': impl.OwWait, 'k': impl.OwCopy, '?': 7, '<': -1}
		tick := impl.Tick{
			Owner: owners[signs[0]], Fetch: strings.Contains(signs, "F"), Write: strings.Contains(signs, "W"),
			Nmi: strings.Contains(signs, "n"), Irq: strings.Contains(signs, "i"),
		}
		n, _ := strconv.Atoi(count)
		list = append(list, slices.Repeat([]impl.Tick{tick}, n)...)
	}
	return list
}

// audit is what is told of a list, but for Reads.
type audit struct {
	fetched []int
	stalled int
	gap     int
	falls   int
	owned   [3]int
}

func checkAudit(t *testing.T, what string, list []impl.Tick, want audit) {
	t.Helper()
	if got := impl.Fetched(list); !slices.Equal(got, want.fetched) {
		t.Errorf("%s: Fetched tells %v, want %v", what, got, want.fetched)
	}
	if got := impl.Stalled(list); got != want.stalled {
		t.Errorf("%s: Stalled tells %d, want %d", what, got, want.stalled)
	}
	if got := impl.Gap(list); got != want.gap {
		t.Errorf("%s: Gap tells %d, want %d", what, got, want.gap)
	}
	if got := impl.Falls(list); got != want.falls {
		t.Errorf("%s: Falls tells %d, want %d", what, got, want.falls)
	}
	if got := impl.Owned(list); got != want.owned {
		t.Errorf("%s: Owned tells %v, want %v", what, got, want.owned)
	}
}

func checkReads(t *testing.T, what string, list []impl.Tick, addr, want int) {
	t.Helper()
	if got := impl.Reads(list, addr); got != want {
		t.Errorf("%s: Reads of %d tells %d, want %d", what, addr, got, want)
	}
}

// signsOf has one sign for each Tick of a list, so that a list is a text.
func signsOf(list []impl.Tick, signOf func(tick impl.Tick) byte) string {
	signs := make([]byte, len(list))
	for i, tick := range list {
		signs[i] = signOf(tick)
	}
	return string(signs)
}

func signIf(is bool, sign byte) byte {
	if is {
		return sign
	}
	return '.'
}

// auditTold asks the same of texts with a sign for each Tick, by what the standard library has for texts.
func auditTold(list []impl.Tick) audit {
	owners := signsOf(list, func(tick impl.Tick) byte {
		if tick.Owner < 0 || tick.Owner > 2 {
			return '?'
		}
		return "cwk"[tick.Owner]
	})
	fetches := signsOf(list, func(tick impl.Tick) byte { return signIf(tick.Fetch, 'F') })
	low := "." + signsOf(list, func(tick impl.Tick) byte { return signIf(tick.Nmi, 'n') })
	told := audit{falls: strings.Count(low, ".n")}
	for _, run := range strings.Split(owners, "c") {
		told.stalled = max(told.stalled, len(run))
	}
	between := strings.Split(fetches, "F")
	for i, part := range between {
		if i > 0 && i < len(between)-1 {
			told.gap = max(told.gap, len(part)+1)
		}
	}
	for at, sign := range fetches {
		if sign == 'F' {
			told.fetched = append(told.fetched, at)
		}
	}
	for owner, sign := range []string{"c", "w", "k"} {
		told.owned[owner] = strings.Count(owners, sign)
	}
	return told
}

func TestAuditOfNothing(t *testing.T) {
	for _, list := range [][]impl.Tick{nil, {}, make([]impl.Tick, 0, 9), ticksOf("3*wFn")[:0], ticksOf("3*wFn")[3:]} {
		checkAudit(t, "an empty list", list, audit{})
		for _, addr := range append(oddNumbers(), 5, 65535, 65536) {
			checkReads(t, "an empty list", list, addr, 0)
		}
	}
}

// TestAuditOfLists has its lists written by hand.
func TestAuditOfLists(t *testing.T) {
	rows := []struct {
		list string
		want audit
	}{
		// One Tick alone.
		{"c", audit{owned: [3]int{1, 0, 0}}},
		{"w", audit{stalled: 1, owned: [3]int{0, 1, 0}}},
		{"k", audit{stalled: 1, owned: [3]int{0, 0, 1}}},
		{"?", audit{stalled: 1}},
		{"<", audit{stalled: 1}},
		{"cF", audit{fetched: []int{0}, owned: [3]int{1, 0, 0}}},
		{"wF", audit{fetched: []int{0}, stalled: 1, owned: [3]int{0, 1, 0}}},
		{"cn", audit{falls: 1, owned: [3]int{1, 0, 0}}},
		{"kn", audit{falls: 1, stalled: 1, owned: [3]int{0, 0, 1}}},
		{"ci", audit{owned: [3]int{1, 0, 0}}},
		{"cW", audit{owned: [3]int{1, 0, 0}}},
		{"?FWni", audit{fetched: []int{0}, stalled: 1, falls: 1}},
		// Two.
		{"c c", audit{owned: [3]int{2, 0, 0}}},
		{"w c", audit{stalled: 1, owned: [3]int{1, 1, 0}}},
		{"c w", audit{stalled: 1, owned: [3]int{1, 1, 0}}},
		{"w k", audit{stalled: 2, owned: [3]int{0, 1, 1}}},
		{"cF c", audit{fetched: []int{0}, owned: [3]int{2, 0, 0}}},
		{"c cF", audit{fetched: []int{1}, owned: [3]int{2, 0, 0}}},
		{"cF cF", audit{fetched: []int{0, 1}, gap: 1, owned: [3]int{2, 0, 0}}},
		{"cn c", audit{falls: 1, owned: [3]int{2, 0, 0}}},
		{"c cn", audit{falls: 1, owned: [3]int{2, 0, 0}}},
		{"cn cn", audit{falls: 1, owned: [3]int{2, 0, 0}}},
		// Stalled at the beginning, in the midst and at the end.
		{"3*w c 2*w c w", audit{stalled: 3, owned: [3]int{2, 6, 0}}},
		{"w c 3*w c 2*w", audit{stalled: 3, owned: [3]int{2, 6, 0}}},
		{"w c 2*w c 3*w", audit{stalled: 3, owned: [3]int{2, 6, 0}}},
		{"c w 2*k c", audit{stalled: 3, owned: [3]int{2, 1, 2}}},
		{"2*k c c 2*w", audit{stalled: 2, owned: [3]int{2, 2, 2}}},
		{"c 2*w c 2*w c", audit{stalled: 2, owned: [3]int{3, 4, 0}}},
		{"w c w c w c w", audit{stalled: 1, owned: [3]int{3, 4, 0}}},
		{"w k ? < w c", audit{stalled: 5, owned: [3]int{1, 2, 1}}},
		{"c ? < c", audit{stalled: 2, owned: [3]int{2, 0, 0}}},
		{"9*w", audit{stalled: 9, owned: [3]int{0, 9, 0}}},
		{"4*k 5*w", audit{stalled: 9, owned: [3]int{0, 5, 4}}},
		{"9*c", audit{owned: [3]int{9, 0, 0}}},
		// Writes, fetches and lines are no reason to stall, or not to.
		{"wF wW wn wi c cFWni", audit{fetched: []int{0, 5}, gap: 5, stalled: 4, falls: 2, owned: [3]int{2, 4, 0}}},
		// Gap: the greatest one first, in the midst, last; what is ahead of the first Fetch, and behind the last, is none.
		{"cF 4*c cF c cF", audit{fetched: []int{0, 5, 7}, gap: 5, owned: [3]int{8, 0, 0}}},
		{"cF c cF 4*c cF c cF", audit{fetched: []int{0, 2, 7, 9}, gap: 5, owned: [3]int{10, 0, 0}}},
		{"cF c cF 4*c cF", audit{fetched: []int{0, 2, 7}, gap: 5, owned: [3]int{8, 0, 0}}},
		{"20*c cF c cF 20*c", audit{fetched: []int{20, 22}, gap: 2, owned: [3]int{43, 0, 0}}},
		{"20*c cF cF", audit{fetched: []int{20, 21}, gap: 1, owned: [3]int{22, 0, 0}}},
		{"cF cF 20*c", audit{fetched: []int{0, 1}, gap: 1, owned: [3]int{22, 0, 0}}},
		{"20*c cF 20*c", audit{fetched: []int{20}, owned: [3]int{41, 0, 0}}},
		{"cF 20*c cF", audit{fetched: []int{0, 21}, gap: 21, owned: [3]int{22, 0, 0}}},
		{"3*cF", audit{fetched: []int{0, 1, 2}, gap: 1, owned: [3]int{3, 0, 0}}},
		{"cF w k wF ? cF", audit{fetched: []int{0, 3, 5}, gap: 3, stalled: 4, owned: [3]int{2, 2, 1}}},
		// Falls: at the first, at the last, for several on end, by turns.
		{"5*cn c", audit{falls: 1, owned: [3]int{6, 0, 0}}},
		{"c 5*cn", audit{falls: 1, owned: [3]int{6, 0, 0}}},
		{"cn c cn c cn", audit{falls: 3, owned: [3]int{5, 0, 0}}},
		{"c cn c cn c", audit{falls: 2, owned: [3]int{5, 0, 0}}},
		{"cn 3*c 2*cn c 4*cn", audit{falls: 3, owned: [3]int{11, 0, 0}}},
		{"9*cn", audit{falls: 1, owned: [3]int{9, 0, 0}}},
		{"cn kn wn w ?n", audit{falls: 2, stalled: 4, owned: [3]int{1, 2, 1}}},
		{"ci cn ci cni ci", audit{falls: 2, owned: [3]int{5, 0, 0}}},
	}
	for _, row := range rows {
		list := ticksOf(row.list)
		checkAudit(t, row.list, list, row.want)
		checkAudit(t, row.list+", by texts", list, auditTold(list))
	}
}

func TestReadsOfLists(t *testing.T) {
	list := []impl.Tick{
		{Addr: 5}, {Addr: 5, Write: true}, {Addr: 5, Owner: impl.OwWait}, {Addr: 5, Owner: impl.OwCopy}, {Addr: 5, Owner: 3}, {Addr: 5, Owner: -1},
		{Addr: 5, Owner: 256}, {Addr: 5, Fetch: true, Nmi: true, Irq: true, Data: 9}, {Addr: 5, Data: -1}, {Addr: 5, Write: true, Fetch: true},
		{}, {Data: 5}, {Write: true}, {Addr: 4}, {Addr: 6}, {Addr: 65535}, {Addr: 65535, Owner: 2}, {Addr: 65535, Write: true}, {Addr: 65530, Data: 3}, {Addr: 256}, {Addr: 1280},
		// These are no addresses, and none of them is the one that its lowest bits are.
		{Addr: 65541}, {Addr: 5 - 65536}, {Addr: 65536}, {Addr: -65536}, {Addr: -1}, {Addr: 131071}, {Addr: math.MaxInt}, {Addr: math.MinInt}, {Addr: math.MinInt + 5},
	}
	rows := []struct{ addr, want int }{
		{5, 3}, {0, 2}, {4, 1}, {6, 1}, {65535, 1}, {65530, 1}, {256, 1}, {1280, 1}, {1, 0}, {3, 0}, {7, 0}, {65534, 0}, {32768, 0}, {65531, 0}, {1285, 0}, {261, 0},
	}
	for _, row := range rows {
		for _, times := range []int{0, 1, -1, 2, -2, 1000003, -1000003, 1 << 40, -(1 << 40), 1<<47 - 1, -(1 << 47)} {
			checkReads(t, "the list", list, row.addr+65536*times, row.want)
		}
	}
	checkReads(t, "the greatest", list, math.MaxInt, 1)
	checkReads(t, "the smallest", list, math.MinInt, 2)
	checkReads(t, "one below 0", list, -1, 1)
	checkReads(t, "six below 0", list, -6, 1)

	// Each by itself, and the first and the last of a list.
	for i, tick := range list {
		for _, row := range rows {
			want := 0
			if tick.Owner == impl.OwCore && !tick.Write && tick.Addr == row.addr {
				want = 1
			}
			checkReads(t, "Tick "+strconv.Itoa(i), []impl.Tick{tick}, row.addr, want)
			checkReads(t, "twice Tick "+strconv.Itoa(i), []impl.Tick{tick, {Addr: 9}, tick}, row.addr, 2*want)
		}
	}
}

// TestReadsOfAllAddresses: each address is read once, by the core.
func TestReadsOfAllAddresses(t *testing.T) {
	var list []impl.Tick
	for addr := range 65536 {
		list = append(list, impl.Tick{Addr: addr}, impl.Tick{Addr: 65535 - addr, Write: true}, impl.Tick{Addr: addr, Owner: 1 + addr%2})
	}
	for _, addr := range append(someAddresses(), 1, 127, 128, 4095, 65530, 65532) {
		checkReads(t, "all", list, addr, 1)
		checkReads(t, "without it", slices.Delete(slices.Clone(list), 3*addr, 3*addr+1), addr, 0)
		checkReads(t, "twice", append(slices.Clip(list), impl.Tick{Addr: addr}), addr, 2)
	}
	for _, addr := range noAddresses() {
		checkReads(t, "all", list, addr, 1)
	}
}

// oneAt tells of a list in which one Tick is another one than the rest.
func oneAt(size, at int, rest, other impl.Tick) []impl.Tick {
	list := slices.Repeat([]impl.Tick{rest}, size)
	list[at] = other
	return list
}

func checkOneAt(t *testing.T, size, at int) {
	t.Helper()
	what := "at " + strconv.Itoa(at) + " of " + strconv.Itoa(size)
	for owner := range 3 {
		want := audit{fetched: []int{at}, falls: 1, owned: [3]int{size - 1, 0, 0}}
		want.owned[owner]++
		if owner != impl.OwCore {
			want.stalled = 1
		}
		one := oneAt(size, at, impl.Tick{Addr: 7}, impl.Tick{Addr: 8, Owner: owner, Fetch: true, Nmi: true})
		checkAudit(t, "one "+what, one, want)
		checkReads(t, "one "+what, one, 7, size-1)
		checkReads(t, "one "+what, one, 8, want.owned[0]-(size-1))
	}
	others := oneAt(size, at, impl.Tick{Owner: impl.OwCopy, Fetch: true, Nmi: true}, impl.Tick{})
	want := audit{stalled: max(at, size-1-at), owned: [3]int{1, 0, size - 1}, falls: 2}
	for place := range size {
		if place != at {
			want.fetched = append(want.fetched, place)
		}
	}
	if at == 0 || at == size-1 {
		want.falls = min(1, size-1)
	}
	if size > 2 {
		want.gap = 2
	}
	if size > 2 && (at == 0 || at == size-1) {
		want.gap = 1
	}
	checkAudit(t, "all but one "+what, others, want)
	checkReads(t, "all but one "+what, others, 0, 1)
}

// TestAuditOfOneTick: one counts, or all but one, at each place of lists of many sizes.
func TestAuditOfOneTick(t *testing.T) {
	for size := 1; size <= 70; size++ {
		for at := range size {
			checkOneAt(t, size, at)
		}
	}
	for _, size := range []int{100, 255, 256, 257, impl.MaxClocks - 1, impl.MaxClocks, impl.MaxClocks + 1, 1000, 1024} {
		for at := range size {
			if at < 5 || at > size-6 || at%23 == 0 || min((at+1)*4%size, at*4%size) < 4 {
				checkOneAt(t, size, at)
			}
		}
	}
}

// TestAuditOfRuns: two runs of Ticks, so that each border is gone over by some of them.
func TestAuditOfRuns(t *testing.T) {
	for size := 4; size <= 24; size++ {
		for first := 0; first <= size; first++ {
			for behind := first; behind <= size; behind++ {
				for second := behind + 1; second <= size; second += 3 {
					list := make([]impl.Tick, size)
					for at := range list {
						if at >= first && at < behind || at >= second {
							list[at] = impl.Tick{Owner: 1 + at%2, Fetch: true, Nmi: true, Addr: at}
						}
					}
					what := strconv.Itoa(size) + ", " + strconv.Itoa(first) + " to " + strconv.Itoa(behind) + ", from " + strconv.Itoa(second)
					if got, want := impl.Stalled(list), max(behind-first, size-second); got != want {
						t.Errorf("%s: Stalled tells %d, want %d", what, got, want)
					}
					if got, want := impl.Falls(list), min(1, behind-first)+min(1, size-second); got != want {
						t.Errorf("%s: Falls tells %d, want %d", what, got, want)
					}
					checkAudit(t, what, list, auditTold(list))
				}
			}
		}
	}
}

// TestAuditOfAllLike: every Tick counts, or none.
func TestAuditOfAllLike(t *testing.T) {
	for _, size := range []int{1, 2, 3, 4, 5, 7, 8, 9, 63, 64, 65, impl.MaxClocks - 1, impl.MaxClocks, impl.MaxClocks + 1, 4096, 100003} {
		what := strconv.Itoa(size) + " Ticks"
		every := make([]int, size)
		for at := range every {
			every[at] = at
		}
		for owner, stalled := range []int{0, size, size} {
			all := slices.Repeat([]impl.Tick{{Owner: owner, Fetch: true, Nmi: true, Addr: 3}}, size)
			want := audit{fetched: every, stalled: stalled, gap: min(1, size-1), falls: 1}
			want.owned[owner] = size
			checkAudit(t, what, all, want)
			checkReads(t, what, all, 3, size-stalled)
			none := slices.Repeat([]impl.Tick{{Owner: owner, Write: true, Addr: 3, Irq: true}}, size)
			want.fetched, want.gap, want.falls = nil, 0, 0
			checkAudit(t, what, none, want)
			checkReads(t, what, none, 3, 0)
		}
		for _, owner := range []int{3, -1, -2, 256, 257, 258, 1 << 32, 1<<32 + 1, -256, math.MaxInt, math.MinInt} {
			nobody := slices.Repeat([]impl.Tick{{Owner: owner, Addr: 3}}, size)
			checkAudit(t, what+" of owner "+strconv.Itoa(owner), nobody, audit{stalled: size})
			checkReads(t, what+" of owner "+strconv.Itoa(owner), nobody, 3, 0)
		}
	}
}

// TestAuditOfShortLists: all lists of some kinds of Ticks, up to so many of them.
func TestAuditOfShortLists(t *testing.T) {
	rows := []struct {
		kinds []string
		most  int
	}{
		{[]string{"c", "w"}, 10}, {[]string{"c", "cF"}, 10}, {[]string{"c", "cn"}, 10}, {[]string{"cF", "wn", "?"}, 7}, {[]string{"cn", "kF", "w", "cFn"}, 6},
	}
	for _, row := range rows {
		for _, text := range shortTexts("0123"[:len(row.kinds)], row.most) {
			var words []string
			for _, digit := range text {
				words = append(words, row.kinds[digit-'0'])
			}
			told := strings.Join(words, " ")
			checkAudit(t, told, ticksOf(told), auditTold(ticksOf(told)))
		}
	}
}

func mixedTick(next func(int) int, often int) impl.Tick {
	owners := []int{0, 0, 0, 0, 0, 0, 1, 1, 2, 2, 3, -1, 256, 257}
	return impl.Tick{
		Addr: []int{next(8), next(8) + 65536, next(65536)}[next(3)], Data: next(256), Write: next(3) == 0, Fetch: next(often) == 0,
		Owner: owners[next(len(owners))], Nmi: next(often) > 0, Irq: next(2) == 0,
	}
}

func mixedTicks(next func(int) int, size int) []impl.Tick {
	often := 1 + next(20)
	list := make([]impl.Tick, size)
	for i := range list {
		list[i] = mixedTick(next, often)
		// Some stretches are of one kind.
		if i > 0 && next(3) > 0 {
			list[i] = list[i-1]
		}
	}
	return list
}

func readsTold(list []impl.Tick, addr int) int {
	return len(slices.DeleteFunc(slices.Clone(list), func(tick impl.Tick) bool {
		return tick != impl.Tick{Addr: addressOf(addr), Data: tick.Data, Fetch: tick.Fetch, Nmi: tick.Nmi, Irq: tick.Irq}
	}))
}

func TestAuditOfMixedLists(t *testing.T) {
	for seed := range 4000 {
		next := numbersFrom(770000 + seed)
		list := mixedTicks(next, next([]int{6, 40, 300, 402}[next(4)]))
		what := "seed " + strconv.Itoa(seed)
		checkAudit(t, what, list, auditTold(list))
		for _, addr := range []int{0, next(8), next(8) + 65536, next(8) - 65536, next(65536)} {
			checkReads(t, what, list, addr, readsTold(list, addr))
		}
	}
	for seed, size := range []int{10000, 65536, 250001} {
		next := numbersFrom(780000 + seed)
		list := mixedTicks(next, size)
		checkAudit(t, strconv.Itoa(size)+" Ticks", list, auditTold(list))
		checkReads(t, strconv.Itoa(size)+" Ticks", list, 5, readsTold(list, 5))
	}
}

// TestAuditOfListsOfTwo: what is told of two lists, one behind the other, comes of what is told of each.
func TestAuditOfListsOfTwo(t *testing.T) {
	for seed := range 2000 {
		next := numbersFrom(790000 + seed)
		a, b := mixedTicks(next, next(50)), mixedTicks(next, next(50))
		both := slices.Concat(a, b)
		fetched := impl.Fetched(a)
		for _, at := range impl.Fetched(b) {
			fetched = append(fetched, at+len(a))
		}
		if got := impl.Fetched(both); !slices.Equal(got, fetched) {
			t.Errorf("seed %d: Fetched tells %v, want %v", seed, got, fetched)
		}
		falls := impl.Falls(a) + impl.Falls(b)
		if len(a) > 0 && len(b) > 0 && a[len(a)-1].Nmi && b[0].Nmi {
			falls--
		}
		if got := impl.Falls(both); got != falls {
			t.Errorf("seed %d: Falls tells %d, want %d", seed, got, falls)
		}
		ofA, ofB := impl.Owned(a), impl.Owned(b)
		if got := impl.Owned(both); got != [3]int{ofA[0] + ofB[0], ofA[1] + ofB[1], ofA[2] + ofB[2]} {
			t.Errorf("seed %d: Owned tells %v of %v and %v", seed, got, ofA, ofB)
		}
		if got, want := impl.Reads(both, 3), impl.Reads(a, 3)+impl.Reads(b, 3); got != want {
			t.Errorf("seed %d: Reads tells %d, want %d", seed, got, want)
		}
		sA, sB, stalled := impl.Stalled(a), impl.Stalled(b), impl.Stalled(both)
		if stalled < max(sA, sB) || stalled > sA+sB || impl.Gap(both) < max(impl.Gap(a), impl.Gap(b)) {
			t.Errorf("seed %d: Stalled tells %d of %d and %d, Gap %d of %d and %d", seed, stalled, sA, sB, impl.Gap(both), impl.Gap(a), impl.Gap(b))
		}
	}
}

// TestStalledIsWhatIsSet: the bus is asked for at each clock, and there is always something to copy, so that as many
// are stalled as may be; with Wait by chance, and bursts that end, never more.
func TestStalledIsWhatIsSet(t *testing.T) {
	for waits := range impl.MaxCap + 1 {
		for burst := range impl.MaxCap + 1 {
			what := strconv.Itoa(waits) + " waits, bursts of " + strconv.Itoa(burst)
			// Left is loaded anew all the time.
			b := programBoard(t, waits, burst, "0200 A9FF8D02304C0002")
			_, list := impl.Run(b, storyOf("400*w"))
			owned := impl.Owned(list)
			if got := impl.Stalled(list); got != waits+burst {
				t.Errorf("%s: Stalled tells %d", what, got)
			}
			if owned[0]+owned[1]+owned[2] != 400 || (owned[1] > 0) != (waits > 0) || (owned[2] > 0) != (burst > 0) || owned[0] <= 400/(waits+burst+1)/2 {
				t.Errorf("%s: Owned tells %v", what, owned)
			}
			_, list = impl.Run(b, storyOf("400*-"))
			if got, owned := impl.Stalled(list), impl.Owned(list); got != burst || owned[1] != 0 {
				t.Errorf("%s, without Wait: Stalled tells %d, Owned %v", what, got, owned)
			}
			b.Keeper.Left = 0
			_, list = impl.Run(b, storyOf("4*w"))
			if got := impl.Stalled(list); got != min(waits, 4) {
				t.Errorf("%s, nothing to copy: Stalled tells %d", what, got)
			}
		}
	}
}

func TestStalledOfMixedBoards(t *testing.T) {
	list := allListed(t)
	for seed := range 300 {
		next := numbersFrom(800000 + seed)
		b := mixedBoard(next, list)
		pins := make([]impl.Pins, 200)
		for i := range pins {
			pins[i] = mixedPins(next)
			pins[i].Wait = pins[i].Wait || seed%2 == 0
		}
		_, ticks := impl.Run(b, pins)
		what := "seed " + strconv.Itoa(seed)
		if got := impl.Stalled(ticks); got > b.Keeper.Waits+b.Keeper.Burst {
			t.Errorf("%s: Stalled tells %d, but %d waits and bursts of %d are set", what, got, b.Keeper.Waits, b.Keeper.Burst)
		}
		if owned := impl.Owned(ticks); owned[0]+owned[1]+owned[2] != len(ticks) {
			t.Errorf("%s: Owned tells %v", what, owned)
		}
		checkAudit(t, what, ticks, auditTold(ticks))
		checkReads(t, what, ticks, ticks[0].Addr, readsTold(ticks, ticks[0].Addr))
		if got, want := impl.Falls(ticks), fallsOfPins(b.Wires, pins); got != want {
			t.Errorf("%s: Falls tells %d, want %d", what, got, want)
		}
	}
}

// fallsOfPins are those that a Run shows: the line is as the wires have it at the first clock, and behind that as the Pins had it one clock ahead.
func fallsOfPins(w impl.Wires, pins []impl.Pins) int {
	falls, ahead, low := 0, false, w.Nmi
	for _, p := range pins {
		if low && !ahead {
			falls++
		}
		ahead, low = low, p.Nmi
	}
	return falls
}

// TestEachInterruptHasItsFall: falls that are far from each other are taken each, and once, however long the line is low.
func TestEachInterruptHasItsFall(t *testing.T) {
	for waits := range 3 {
		for burst := range 2 {
			far := 30 * (1 + waits + burst)
			for low := 1; low < far; low += 7 {
				b := programBoard(t, waits, burst, "0200 EA4C0002", "0300 40")
				b.Keeper.Left = 255
				pins := storyOf("400*w")
				falls := 0
				for at := 3; at+far < len(pins); at += far {
					for i := range low {
						pins[at+i].Nmi = true
					}
					falls++
				}
				what := strconv.Itoa(falls) + " falls of " + strconv.Itoa(low) + " clocks"
				_, list := impl.Run(b, pins)
				if got := impl.Falls(list); got != falls || falls < 3 {
					t.Errorf("%s: Falls tells %d", what, got)
				}
				checkReads(t, what, list, 0xFFFA, falls)
				checkReads(t, what, list, 0xFFFB, falls)
				checkReads(t, what, list, 0xFFFC, 0)
			}
		}
	}
}

// TestNoInterruptWithoutFall: whatever the other lines do, no more are taken than the line fell, and none where it never did.
func TestNoInterruptWithoutFall(t *testing.T) {
	taken, falls := 0, 0
	for seed := range 300 {
		next := numbersFrom(810000 + seed)
		b := programBoard(t, next(4), next(4), "0200 58EAE6104C0102", "0300 E61140", "0340 40")
		b.Keeper.Left = next(256)
		often := []int{4, 10, 40, 100}[next(4)]
		pins := make([]impl.Pins, 400)
		for i := range pins {
			pins[i] = mixedPins(next)
			pins[i].Nmi, pins[i].Reset = next(often) == 0, next(60) == 0
			// The line is low from the beginning on: that is no fall behind the first.
			if seed%10 == 0 {
				pins[i].Nmi = true
			}
			if seed%10 == 1 {
				pins[i].Nmi = false
			}
		}
		_, list := impl.Run(b, pins)
		what := "seed " + strconv.Itoa(seed)
		got, reads := impl.Falls(list), impl.Reads(list, 0xFFFA)
		if want := fallsOfPins(b.Wires, pins); got != want || reads > got || seed%10 == 0 && got != 1 || seed%10 == 1 && got != 0 {
			t.Errorf("%s: %d falls, want %d, and %d taken", what, got, want, reads)
		}
		taken, falls = taken+reads, falls+got
	}
	if taken < 500 || falls < taken {
		t.Errorf("%d falls, %d taken", falls, taken)
	}
}

// TestAuditOfPrograms: what is told of Runs whose clocks are known.
func TestAuditOfPrograms(t *testing.T) {
	rows := []struct {
		mem    string
		pins   []impl.Pins
		waits  int
		want   audit
		reads  int
		readsA int
	}{
		// NOP has two clocks, and reads what is behind it in vain.
		{"0200 EAEAEAEA", storyOf("8*-"), 0, audit{fetched: []int{0, 2, 4, 6}, gap: 2, owned: [3]int{8, 0, 0}}, 1, 2},
		{"0200 EAEAEAEA", storyOf("7*-"), 0, audit{fetched: []int{0, 2, 4, 6}, gap: 2, owned: [3]int{7, 0, 0}}, 1, 2},
		{"0200 EAEAEAEA", storyOf("-", "3*w", "4*-"), 2, audit{fetched: []int{0, 4, 6}, gap: 4, stalled: 2, owned: [3]int{6, 2, 0}}, 1, 2},
		{"0200 EAEAEAEA", storyOf("2*w", "6*-"), 2, audit{fetched: []int{2, 4, 6}, gap: 2, stalled: 2, owned: [3]int{6, 2, 0}}, 1, 2},
		{"0200 EAEAEAEA", storyOf("6*-", "2*w"), 2, audit{fetched: []int{0, 2, 4}, gap: 2, stalled: 2, owned: [3]int{6, 2, 0}}, 1, 2},
		// INC of abs has six clocks, two of them writes, which are never held up.
		{"0200 EE0302EA", storyOf("8*-"), 0, audit{fetched: []int{0, 6}, gap: 6, owned: [3]int{8, 0, 0}}, 1, 1},
		{"0200 EE0302EA", storyOf("8*w"), 1, audit{fetched: []int{1}, stalled: 1, owned: [3]int{4, 4, 0}}, 1, 1},
		// A JAM is fetched, and nothing behind it.
		{"0200 EA02", storyOf("9*-"), 0, audit{fetched: []int{0, 2}, gap: 2, owned: [3]int{9, 0, 0}}, 1, 2},
		// BRK has seven, and goes on at 0340.
		{"0200 00EA", storyOf("9*-"), 0, audit{fetched: []int{0, 7}, gap: 7, owned: [3]int{9, 0, 0}}, 1, 1},
		// At an interrupt two reads are in vain, where the next instruction is.
		{"0200 EAEAEAEA", storyOf("2*n", "-", "2*n", "3*-"), 0, audit{fetched: []int{0, 2}, gap: 2, falls: 2, owned: [3]int{8, 0, 0}}, 1, 3},
	}
	for _, row := range rows {
		b := programBoard(t, row.waits, 0, row.mem, "0340 EAEAEA")
		_, list := impl.Run(b, row.pins)
		what := row.mem + ": " + shownAll(list)
		checkAudit(t, what, list, row.want)
		checkReads(t, what, list, 0x200, row.reads)
		checkReads(t, what, list, 0x201, row.readsA)
	}
}

// TestOwnedOfCopies: as many Ticks are of OwCopy as bytes are asked for.
func TestOwnedOfCopies(t *testing.T) {
	for _, left := range []int{0, 1, 2, 3, 20, 99, 100} {
		for burst := range impl.MaxCap + 1 {
			b := programBoard(t, 1, burst, "0200 4C0002")
			b.Keeper.Left, b.Keeper.Addr = left, 0x0200
			_, list := impl.Run(b, storyOf("400*-"))
			want := [3]int{400 - left, 0, left}
			if burst == 0 {
				want = [3]int{400, 0, 0}
			}
			what := strconv.Itoa(left) + " left, bursts of " + strconv.Itoa(burst)
			if got := impl.Owned(list); got != want {
				t.Errorf("%s: Owned tells %v, want %v", what, got, want)
			}
			if got := impl.Stalled(list); got != min(left, burst) {
				t.Errorf("%s: Stalled tells %d", what, got)
			}
		}
	}
}

// TestAuditOfWrongBoards: their Ticks are zero, so the core reads at 0 all the time.
func TestAuditOfWrongBoards(t *testing.T) {
	for i, b := range append(wrongBoards(baseBoard(t)), impl.Board{}) {
		for _, count := range []int{0, 1, 2, 400, 401} {
			_, list := impl.Run(b, storyOf(strconv.Itoa(count)+"*niw FF"))
			what := "board " + strconv.Itoa(i)
			checkAudit(t, what, list, audit{owned: [3]int{min(count, 400), 0, 0}})
			checkReads(t, what, list, 0, min(count, 400))
			checkReads(t, what, list, 1, 0)
		}
	}
}

func TestAuditListsAreNew(t *testing.T) {
	for _, size := range []int{1, 4, 5, 60, impl.MaxClocks} {
		room := mixedTicks(numbersFrom(820000+size), size+9)
		list, kept := room[4:size+4], slices.Clone(room)
		want := impl.Fetched(list)
		kind, places := auditTold(list), impl.Fetched(list)
		for i := range places {
			places[i] = -7
		}
		_ = append(places, 1, 2, 3)
		if got := impl.Fetched(list); !slices.Equal(got, want) {
			t.Errorf("behind a change of the first answer: %v, want %v", got, want)
		}
		checkAudit(t, strconv.Itoa(size)+" Ticks", list, kind)
		impl.Reads(list, 3)
		if !slices.Equal(room, kept) {
			t.Errorf("%d Ticks, or what stands beside them, are other ones behind", size)
		}
	}
}

// TestAuditAtOnce: one list may be asked by several at once, as nothing is written into it; no goroutine is left behind.
func TestAuditAtOnce(t *testing.T) {
	ahead := runtime.NumGoroutine()
	list := mixedTicks(numbersFrom(830000), 2000)
	want, reads := auditTold(list), readsTold(list, 5)
	var group sync.WaitGroup
	for range 16 {
		group.Add(1)
		go func() {
			defer group.Done()
			for range 50 {
				checkAudit(t, "at once", list, want)
				checkReads(t, "at once", list, 5, reads)
			}
		}()
	}
	group.Wait()
	checkNoneLeft(t, ahead)
}

// TestAuditAnswersAlways: a panic fails the test; the numbers of a Tick that aren't asked for change nothing.
func TestAuditAnswersAlways(t *testing.T) {
	for _, n := range oddNumbers() {
		for _, m := range oddNumbers() {
			list := []impl.Tick{{Addr: n, Data: m, Fetch: true}, {Addr: m, Data: n, Nmi: true}, {Addr: n, Owner: n, Fetch: true}, {Addr: m, Owner: m, Write: true}, {Addr: n, Write: true}}
			what := "with " + strconv.Itoa(n) + " and " + strconv.Itoa(m)
			checkAudit(t, what, list, auditTold(list))
			for _, addr := range oddNumbers() {
				checkReads(t, what, list, addr, readsTold(list, addr))
			}
		}
	}
}
