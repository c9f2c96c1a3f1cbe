package tests

import (
	"fmt"
	"math"
	"slices"
	"strings"
	"testing"

	"loop.example/g00760/impl"
)

// shortTexts are all texts of at most so many of these bytes.
func shortTexts(bytes string, most int) []string {
	texts := []string{""}
	from := 0
	for range most {
		end := len(texts)
		for _, text := range texts[from:end] {
			for i := range len(bytes) {
				texts = append(texts, text+bytes[i:i+1])
			}
		}
		from = end
	}
	return texts
}

// oddTexts are as unlike what is asked for as may be; every function answers at them.
func oddTexts() []string {
	texts := []string{
		"", "\x00", "\xff\xfe", "\xc0\x80", "\u00a0", "\u2028", "\u0661", "\uff11", "\uff21", "\ufffd",
		strings.Repeat("9", 5000), strings.Repeat("F", 5000), strings.Repeat("\n", 5000),
		strings.Repeat(" ", 5000), strings.Repeat("a\t", 5000),
	}
	for b := range 256 {
		texts = append(texts, string([]byte{byte(b)}))
	}
	return texts
}

func oddNumbers() []int {
	return []int{
		math.MinInt, math.MinInt + 1, math.MinInt32, -1000000000, -10, -1, 0, 1, 9, 10,
		1000000000, math.MaxInt32, math.MaxUint32, math.MaxUint32 + 1, math.MaxInt - 1, math.MaxInt,
	}
}

func TestDecTextOfNumbers(t *testing.T) {
	rows := []struct {
		n    int
		want string
	}{
		{0, "0"}, {7, "7"}, {10, "10"}, {100, "100"}, {-1, "-1"}, {-10, "-10"}, {-120, "-120"},
		{999999999, "999999999"}, {1000000000, "1000000000"}, {-1000000000, "-1000000000"},
		{math.MaxInt, "9223372036854775807"}, {math.MinInt, "-9223372036854775808"},
	}
	for _, row := range rows {
		if got := impl.DecText(row.n); got != row.want {
			t.Errorf("DecText(%d) = %q, want %q", row.n, got, row.want)
		}
	}
}

func TestDecimalsComeBack(t *testing.T) {
	numbers := []int{999999999, 999999998, 900000000, 123456789, 100000000, 99999999, 10000000}
	for n := range 20000 {
		numbers = append(numbers, n, n*49999, 999999999-n)
	}
	for _, n := range numbers {
		if got := impl.ReadDec(impl.DecText(n)); got != n {
			t.Fatalf("ReadDec(DecText(%d)) = %d", n, got)
		}
	}
}

func TestReadDecRefuses(t *testing.T) {
	texts := []string{
		"", "-", "+", "-0", "+0", "-1", "-120", "+5", "00", "01", "012", "007", "000000000", "0999999999",
		"1000000000", "9999999999", "0000000001", "2147483648", "4294967296", "4294967297",
		"9223372036854775807", "9223372036854775808", "18446744073709551616", "18446744073709551617",
		" 1", "1 ", "1\n", "\t1", "1\x00", "1 2", "1.0", "1e3", "1_000", "0x1", "0b1", "0o7", "a", "1a", "A",
		"١", "１", "½", "nan", "inf",
	}
	for _, text := range texts {
		if got := impl.ReadDec(text); got != -1 {
			t.Errorf("ReadDec(%q) = %d, want -1", text, got)
		}
	}
}

// TestReadDecTakesNoOther holds ReadDec against all texts that there are of some bytes.
func TestReadDecTakesNoOther(t *testing.T) {
	numbers := map[string]int{}
	for n := range 10000 {
		numbers[fmt.Sprint(n)] = n
	}
	for _, text := range shortTexts("0159-+_ x/:", 4) {
		want, ok := numbers[text]
		if !ok {
			want = -1
		}
		if got := impl.ReadDec(text); got != want {
			t.Errorf("ReadDec(%q) = %d, want %d", text, got, want)
		}
	}
}

func TestHexTextOfNumbers(t *testing.T) {
	rows := []struct {
		n, digits int
		want      string
	}{
		{0, 1, "0"}, {0, 8, "00000000"}, {9, 1, "9"}, {10, 1, "A"}, {15, 1, "F"}, {16, 1, "0"}, {16, 2, "10"},
		{43981, 4, "ABCD"}, {43981, 2, "CD"}, {43981, 6, "00ABCD"}, {5, 4, "0005"},
		{-1, 1, "F"}, {-1, 8, "FFFFFFFF"}, {-2, 4, "FFFE"}, {-256, 2, "00"}, {-256, 3, "F00"},
		{0x123456789, 8, "23456789"}, {math.MaxInt, 8, "FFFFFFFF"}, {math.MinInt, 8, "00000000"},
		{math.MinInt + 1, 8, "00000001"},
	}
	for _, row := range rows {
		if got := impl.HexText(row.n, row.digits); got != row.want {
			t.Errorf("HexText(%d, %d) = %q, want %q", row.n, row.digits, got, row.want)
		}
	}
}

func TestHexTextHasAsManyDigits(t *testing.T) {
	for digits := 1; digits <= 8; digits++ {
		for _, n := range append(oddNumbers(), 0x1234ABCD, 0x89EF0567, -0x1234ABCD) {
			want := fmt.Sprintf("%0*X", digits, uint64(n)&(1<<(4*digits)-1))
			if got := impl.HexText(n, digits); got != want {
				t.Errorf("HexText(%d, %d) = %q, want %q", n, digits, got, want)
			}
		}
	}
}

func TestHexTextWithoutDigits(t *testing.T) {
	for _, digits := range []int{0, 9, -1, -8, 10, 16, 1 << 32, 1<<32 + 4, math.MaxInt, math.MinInt} {
		for _, n := range []int{0, 1, -1, 43981} {
			if got := impl.HexText(n, digits); got != "" {
				t.Errorf("HexText(%d, %d) = %q, want the empty text", n, digits, got)
			}
		}
	}
}

func TestSixteensComeBack(t *testing.T) {
	for digits := 1; digits <= 7; digits++ {
		top := 1 << (4 * digits)
		for step := range 5000 {
			for _, n := range []int{step % top, (step * 53681) % top, top - 1 - step%top} {
				text := impl.HexText(n, digits)
				if got := impl.ReadHex(text); got != n {
					t.Fatalf("ReadHex(%q) = %d, want %d", text, got, n)
				}
				if got := impl.ReadHex(strings.ToLower(text)); got != n {
					t.Fatalf("ReadHex(%q) = %d, want %d", strings.ToLower(text), got, n)
				}
			}
		}
	}
}

func TestReadHexTakes(t *testing.T) {
	rows := []struct {
		text string
		want int
	}{
		{"0", 0}, {"0000000", 0}, {"0000001", 1}, {"9", 9}, {"a", 10}, {"A", 10}, {"f", 15}, {"F", 15}, {"10", 16},
		{"abCD", 43981}, {"AbcDef", 0xABCDEF}, {"FFFFFFF", 268435455}, {"fffffff", 268435455}, {"0012", 18},
	}
	for _, row := range rows {
		if got := impl.ReadHex(row.text); got != row.want {
			t.Errorf("ReadHex(%q) = %d, want %d", row.text, got, row.want)
		}
	}
}

func TestReadHexRefuses(t *testing.T) {
	texts := []string{
		"", "00000000", "00000001", "10000000", "FFFFFFFF", "0FFFFFFF", "123456789", "ffffffffffffffff",
		"10000000000000000", "-1", "+1", "-", "+", "0x1", "0X1", "$1", "#1", "1h", "1_0", "1.0", "G", "g", "FG",
		" 1", "1 ", "1\n", "\tF", "F\x00", "A B", "é", "Ａ", "１", "@", "`", "/", ":",
	}
	for _, text := range texts {
		if got := impl.ReadHex(text); got != -1 {
			t.Errorf("ReadHex(%q) = %d, want -1", text, got)
		}
	}
}

// TestReadHexTakesNoOther holds ReadHex against all texts of at most two bytes.
func TestReadHexTakesNoOther(t *testing.T) {
	const digits = "0123456789abcdef"
	value := func(b int) int { return strings.IndexByte(digits, byte(b)|0x20) }
	isDigit := func(b int) bool { return b >= '0' && b <= '9' || b >= 'A' && b <= 'F' || b >= 'a' && b <= 'f' }
	for b := range 256 {
		want := -1
		if isDigit(b) {
			want = value(b)
		}
		if got := impl.ReadHex(string([]byte{byte(b)})); got != want {
			t.Errorf("ReadHex of byte %d = %d, want %d", b, got, want)
		}
		for c := range 256 {
			want := -1
			if isDigit(b) && isDigit(c) {
				want = 16*value(b) + value(c)
			}
			if got := impl.ReadHex(string([]byte{byte(b), byte(c)})); got != want {
				t.Errorf("ReadHex of bytes %d and %d = %d, want %d", b, c, got, want)
			}
		}
	}
}

func TestLinesOfTexts(t *testing.T) {
	rows := []struct {
		text string
		want []string
	}{
		{"", nil}, {"a", []string{"a"}}, {"\n", []string{"", ""}}, {"\n\n", []string{"", "", ""}},
		{"a\n", []string{"a", ""}}, {"\na", []string{"", "a"}}, {"a\nb", []string{"a", "b"}},
		{"a\n\nb\n", []string{"a", "", "b", ""}}, {"a\n\n", []string{"a", "", ""}},
		{" a \n\tb\t", []string{" a ", "\tb\t"}}, {"a\r\nb\r", []string{"a\r", "b\r"}}, {"a\rb", []string{"a\rb"}},
		{"a\x0b\x0c\x85b", []string{"a\x0b\x0c\x85b"}}, {"\u2028\n\xff", []string{"\u2028", "\xff"}},
		{"\x00\n\x00", []string{"\x00", "\x00"}}, {" ", []string{" "}},
	}
	for _, row := range rows {
		if got := impl.Lines(row.text); !slices.Equal(got, row.want) {
			t.Errorf("Lines(%q) = %q, want %q", row.text, got, row.want)
		}
	}
}

func TestLinesComeBack(t *testing.T) {
	for _, text := range shortTexts("a\n \r\xff", 6) {
		lines := impl.Lines(text)
		if text == "" {
			continue
		}
		if len(lines) != strings.Count(text, "\n")+1 || strings.Join(lines, "\n") != text {
			t.Fatalf("Lines(%q) = %q", text, lines)
		}
		for _, line := range lines {
			if strings.Contains(line, "\n") {
				t.Fatalf("Lines(%q) = %q: a line holds a byte 10", text, lines)
			}
		}
	}
}

func TestWordsOfTexts(t *testing.T) {
	rows := []struct {
		text string
		want []string
	}{
		{"", nil}, {" ", nil}, {"\t", nil}, {" \t \t\t  ", nil}, {"a", []string{"a"}}, {"abc", []string{"abc"}},
		{" a\tbc  d", []string{"a", "bc", "d"}}, {"a b", []string{"a", "b"}}, {"a\tb", []string{"a", "b"}},
		{"a \t b", []string{"a", "b"}}, {"\t\ta", []string{"a"}}, {"a  ", []string{"a"}},
		{"a a a", []string{"a", "a", "a"}}, {"c b a", []string{"c", "b", "a"}},
		{"a\nb c", []string{"a\nb", "c"}}, {"\n", []string{"\n"}}, {" \r ", []string{"\r"}},
		{"a\x0bb\x0cc", []string{"a\x0bb\x0cc"}}, {"a\u00a0b\u2003c", []string{"a\u00a0b\u2003c"}},
		{"\x85 \xa0\t\x00", []string{"\x85", "\xa0", "\x00"}}, {"\xff \xfe", []string{"\xff", "\xfe"}},
		{"LDA ($20),Y", []string{"LDA", "($20),Y"}},
	}
	for _, row := range rows {
		if got := impl.Words(row.text); !slices.Equal(got, row.want) {
			t.Errorf("Words(%q) = %q, want %q", row.text, got, row.want)
		}
	}
}

// TestWordsBreakAtTwoBytesAlone: byte 32 and byte 9 stand between words, all others in them.
func TestWordsBreakAtTwoBytesAlone(t *testing.T) {
	for b := range 256 {
		sign := string([]byte{byte(b)})
		want := []string{"x" + sign + "y"}
		if b == 32 || b == 9 {
			want = []string{"x", "y"}
		}
		if got := impl.Words("x" + sign + "y"); !slices.Equal(got, want) {
			t.Errorf("Words around byte %d = %q, want %q", b, got, want)
		}
	}
}

func TestWordsComeBack(t *testing.T) {
	lists := [][]string{
		nil, {"a"}, {"a", "b"}, {"go", "3", "nw", "0F"}, {"\n", "\xff", "\x00", "a\nb"}, {"x", "x", "x", "x"},
	}
	for _, list := range lists {
		for _, between := range []string{" ", "\t", "  ", " \t", "\t \t", strings.Repeat(" ", 20)} {
			for _, around := range []string{"", between} {
				text := around + strings.Join(list, between) + around
				if got := impl.Words(text); !slices.Equal(got, list) {
					t.Errorf("Words(%q) = %q, want %q", text, got, list)
				}
			}
		}
	}
}

// TestWordsOfAllShortTexts holds Words against a plainer reckoning.
func TestWordsOfAllShortTexts(t *testing.T) {
	isGap := func(r rune) bool { return r == ' ' || r == '\t' }
	for _, text := range shortTexts("ab \t\n\xc2\xa0", 5) {
		if got, want := impl.Words(text), strings.FieldsFunc(text, isGap); !slices.Equal(got, want) {
			t.Fatalf("Words(%q) = %q, want %q", text, got, want)
		}
	}
}

// TestTextsAnswerAlways: a panic fails the test; the same question has the same answer.
func TestTextsAnswerAlways(t *testing.T) {
	for _, text := range oddTexts() {
		if impl.ReadDec(text) != impl.ReadDec(text) || impl.ReadHex(text) != impl.ReadHex(text) {
			t.Errorf("%q is read in two ways", text)
		}
		if n := impl.ReadDec(text); n != -1 && fmt.Sprint(n) != text {
			t.Errorf("ReadDec(%q) = %d", text, n)
		}
		if n := impl.ReadHex(text); n < -1 || n > 0xFFFFFFF {
			t.Errorf("ReadHex(%q) = %d", text, n)
		}
		if !slices.Equal(impl.Lines(text), impl.Lines(text)) || !slices.Equal(impl.Words(text), impl.Words(text)) {
			t.Errorf("%q is parted in two ways", text)
		}
	}
	for _, n := range oddNumbers() {
		if got := impl.DecText(n); got != fmt.Sprint(n) {
			t.Errorf("DecText(%d) = %q", n, got)
		}
		for _, digits := range oddNumbers() {
			if got := impl.HexText(n, digits); len(got) != digits && got != "" {
				t.Errorf("HexText(%d, %d) = %q", n, digits, got)
			}
		}
	}
}

// TestTextListsAreNew: what is written into one answer shows neither in the argument nor in the next answer.
func TestTextListsAreNew(t *testing.T) {
	asked := map[string]func(string) []string{"Lines": impl.Lines, "Words": impl.Words}
	for name, ask := range asked {
		text := "one two\nthree\tfour\nfive"
		first, want := ask(text), ask(text)
		want = slices.Clone(want)
		for i := range first[:cap(first)] {
			first[:cap(first)][i] = "spoiled"
		}
		if text != "one two\nthree\tfour\nfive" || !slices.Equal(ask(text), want) {
			t.Errorf("%s gives out a list that it keeps", name)
		}
	}
}
