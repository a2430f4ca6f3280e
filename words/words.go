// Package words has what the texts of all layers are made of: lines, names and numbers; and how such a text is printed and parsed.
package words

import (
	"iter"
	"strconv"
	"strings"

	"thatch/api"
	"thatch/fault"
)

// maxDigits is how many digits a number in a text may have.
const maxDigits = 10

// Lines yields the lines of a text with their numbers, from 1 on. What is behind the last line feed is a line unless it is empty.
func Lines(text string) iter.Seq2[int, string] {
	return func(yield func(int, string) bool) {
		rest := text
		for number := 1; rest != ""; number++ {
			var line string
			line, rest, _ = strings.Cut(rest, "\n")
			if !yield(number, line) {
				return
			}
		}
	}
}

// Print returns the text of a value, if it is one that may be.
func Print[T any](value T, check func(T) api.Errno, write func(T) string) (string, api.Errno) {
	if e := check(value); e != api.OK {
		return "", e
	}
	text := write(value)
	if len(text) > api.MaxText {
		return "", api.ErrLimit
	}
	return text, api.OK
}

// Parse returns the value of a text, if it is one that may be, or the number of the first line that is wrong, 0 if the error is none of a line.
func Parse[T any](text string, read func(string) (T, int, api.Errno), check func(T) api.Errno) (T, int, api.Errno) {
	var none T
	if len(text) > api.MaxText {
		return none, 0, api.ErrLimit
	}
	value, line, e := read(text)
	if e != api.OK {
		return none, line, e
	}
	if e := check(value); e != api.OK {
		return none, 0, e
	}
	return value, 0, api.OK
}

// Read returns the value that take makes of the lines of a text, one by one, from the zero value on. It is given their numbers, from 1 on, and their words; what it panics with is the error of its line. With an error the value is none.
func Read[T any](text string, take func(value *T, line int, parts []string)) (value T, line int, e api.Errno) {
	e = fault.Of(func() {
		for number, s := range Lines(text) {
			line = number
			take(&value, line, strings.Split(s, " "))
		}
	})
	if e != api.OK {
		var none T
		return none, line, e
	}
	return value, 0, api.OK
}

// IsName reports whether a word is a name.
func IsName(word string) bool {
	if len(word) < 1 || len(word) > api.MaxName {
		return false
	}
	for i := range len(word) {
		if c := word[i]; !isLetter(c) && (i == 0 || !isDigit(c) && c != '-') {
			return false
		}
	}
	return true
}

// Number returns the whole number that a word is, and whether it is one.
func Number(word string) (int, bool) {
	digits := strings.TrimPrefix(word, "-")
	if len(digits) < 1 || len(digits) > maxDigits {
		return 0, false
	}
	for i := range len(digits) {
		if !isDigit(digits[i]) {
			return 0, false
		}
	}
	if digits[0] == '0' && word != "0" {
		return 0, false
	}
	number, err := strconv.Atoi(word)
	return number, err == nil
}

// Numbers returns the whole numbers that words are, and whether each of them is one.
func Numbers(list []string) ([]int, bool) {
	numbers := make([]int, len(list))
	for i, word := range list {
		n, ok := Number(word)
		if !ok {
			return nil, false
		}
		numbers[i] = n
	}
	return numbers, true
}

// NumbersBehind returns the numbers of a line behind some words. It panics, as Read wants it, unless there are just so many of both.
func NumbersBehind(parts []string, some, count int) []int {
	fault.Unless(len(parts) == some+count, api.ErrForm)
	list, ok := Numbers(parts[some:])
	fault.Unless(ok, api.ErrForm)
	return list
}

// WriteLine adds a line to a text: some words, and behind them numbers.
func WriteLine(text *strings.Builder, words string, numbers ...int) {
	text.WriteString(words)
	WriteNumbers(text, numbers...)
	text.WriteString("\n")
}

// WriteNumbers adds numbers to a line, each with a blank ahead of it.
func WriteNumbers(text *strings.Builder, numbers ...int) {
	for _, n := range numbers {
		text.WriteString(" " + strconv.Itoa(n))
	}
}

func isLetter(c byte) bool { return 'a' <= c && c <= 'z' }

func isDigit(c byte) bool { return '0' <= c && c <= '9' }
