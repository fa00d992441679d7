package bench

import (
	"strconv"
	"strings"

	"tinker/api"
	"tinker/kit"
)

// kind is a kind of orders.
type kind int

const (
	toPut kind = iota
	toUndo
	toTest
	toForget
	toLock
	toFix
	toCheck
	kindCount // the number of kinds
)

// form tells how orders of a kind are written.
type form struct {
	word    string
	numbers int // how many of them follow the word
}

// forms returns the forms of all kinds.
func forms() [kindCount]form {
	return [kindCount]form{
		toPut:    {"put", 5},
		toUndo:   {"undo", 0},
		toTest:   {"test", api.Registers + 2},
		toForget: {"forget", 1},
		toLock:   {"lock", 1},
		toFix:    {"fix", 0},
		toCheck:  {"check", 0},
	}
}

// order is an order that is understood.
type order struct {
	kind    kind
	numbers []int
}

// parse returns what an order says; false if it is none.
func parse(text string) (order, bool) {
	if !hasLength(text) {
		return order{}, false
	}
	words := strings.Split(text, " ")
	numbers, is := parseNumbers(words[1:])
	if !is {
		return order{}, false
	}
	for k, f := range forms() {
		if f.word == words[0] && f.numbers == len(numbers) {
			return order{kind(k), numbers}, true
		}
	}
	return order{}, false
}

// hasLength reports whether a text is as long as an order may be.
func hasLength(text string) bool {
	return kit.IsBetween(len(text), 1, api.MaxLine)
}

// parseNumbers returns the numbers that words write; false if one of them writes none.
func parseNumbers(words []string) ([]int, bool) {
	list := make([]int, len(words))
	for i, word := range words {
		n, err := strconv.Atoi(word)
		// A number is written in one way only; Atoi takes others too.
		if err != nil || !kit.IsValue(n) || strconv.Itoa(n) != word {
			return nil, false
		}
		list[i] = n
	}
	return list, true
}
