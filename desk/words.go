package desk

import (
	"strconv"
	"strings"
)

const (
	blank     = " "
	maxWords  = 5           // of a line that says something
	maxNumber = 100_000_000 // the highest number that a line may have
)

// wordsOf tells the words of a line. It takes no more than one too many: a line may be of any length, and from there on it says nothing.
func wordsOf(line string) []string {
	var words []string
	for rest := strings.TrimLeft(line, blank); rest != "" && len(words) <= maxWords; rest = strings.TrimLeft(rest, blank) {
		var word string
		word, rest, _ = strings.Cut(rest, blank)
		words = append(words, word)
	}
	return words
}

// numbersOf tells the numbers that words are; false: one of them is none.
func numbersOf(words ...string) ([]int, bool) {
	var numbers []int
	for _, word := range words {
		n, ok := numberOf(word)
		if !ok {
			return nil, false
		}
		numbers = append(numbers, n)
	}
	return numbers, true
}

// numberOf tells the number that a word is; false: it is none.
func numberOf(word string) (int, bool) {
	n, err := strconv.Atoi(word)
	// As short as can be is as the number would be told: that leaves no sign and no nought ahead.
	return n, err == nil && n >= 0 && n <= maxNumber && strconv.Itoa(n) == word
}
