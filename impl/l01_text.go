package impl

import (
	"iter"
	"strconv"
	"strings"
)

const (
	maxDec      = 999999999
	maxHexText  = 8
	maxHexRead  = 7
	hexDigits   = "0123456789ABCDEF"
	newline     = "\n"
	blankOrTab  = " \t"
	noSuchValue = -1
)

func DecText(n int) string {
	return strconv.Itoa(n)
}

func ReadDec(s string) int {
	n, err := strconv.Atoi(s)
	if err != nil || n < 0 || n > maxDec {
		return noSuchValue
	}
	// Atoi also takes a plus sign, minus nought and needless noughts ahead.
	if DecText(n) != s {
		return noSuchValue
	}
	return n
}

func HexText(n int, digits int) string {
	if digits < 1 || digits > maxHexText {
		return ""
	}
	text := make([]byte, digits)
	for i := range text {
		text[digits-1-i] = hexDigits[n&15]
		n >>= 4
	}
	return string(text)
}

func ReadHex(s string) int {
	// The length is asked here: noughts ahead make a text longer, not its value larger.
	if len(s) > maxHexRead {
		return noSuchValue
	}
	n, err := strconv.ParseUint(s, 16, 64)
	if err != nil {
		return noSuchValue
	}
	return int(n)
}

func Lines(s string) []string {
	if s == "" {
		return nil
	}
	return strings.Split(s, newline)
}

func Words(s string) []string {
	var words []string
reading:
	for word := range wordsOf(s) {
		switch word {
		case "":
			break reading
		default:
			words = append(words, word)
		}
	}
	return words
}

// wordsOf has no end of its own: behind the last word it tells the empty text
// again and again. No word is empty, so whoever ranges over it leaves at that.
func wordsOf(s string) iter.Seq[string] {
	return func(yield func(string) bool) {
		word, rest := firstWord(s)
		for yield(word) {
			word, rest = firstWord(rest)
		}
	}
}

func firstWord(s string) (word string, rest string) {
	s = strings.TrimLeft(s, blankOrTab)
	end := strings.IndexAny(s, blankOrTab)
	if end < 0 {
		return s, ""
	}
	return s[:end], s[end:]
}
