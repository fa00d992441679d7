package bench

import (
	"strconv"
	"strings"

	"tinker/api"
)

const (
	sumModulus = 1000003
	sumFactor  = 257
)

// Sum returns the sum of a number and a text, which tells texts apart.
func Sum(before int, text string) int {
	sum := before % sumModulus
	if sum < 0 {
		sum += sumModulus
	}
	for _, b := range []byte(text) {
		sum = (sum*sumFactor + int(b) + 1) % sumModulus
	}
	return sum
}

// page returns the line of a book for an order, without its end.
func page(sum int, order string) string {
	return strconv.Itoa(sum) + " " + order
}

// isPaper reports whether a book may have a text as an order.
func isPaper(text string) bool {
	return hasLength(text) && !strings.Contains(text, "\n")
}

// Write returns the book of orders.
func Write(orders []string) (string, api.Errno) {
	if len(orders) > api.MaxPages {
		return "", api.ErrLarge
	}
	for _, order := range orders {
		if !isPaper(order) {
			return "", api.ErrArg
		}
	}
	return write(orders), api.OK
}

func write(orders []string) string {
	var book strings.Builder
	sum := 0
	for _, order := range orders {
		sum = Sum(sum, order)
		book.WriteString(page(sum, order) + "\n")
	}
	return book.String()
}

// Read returns the orders of the longest beginning of a text that is a book, and the rest.
func Read(book string) ([]string, string) {
	var orders []string
	sum := 0
	for len(orders) < api.MaxPages {
		order, rest, is := readPage(book, sum)
		if !is {
			break
		}
		orders = append(orders, order)
		sum = Sum(sum, order)
		book = rest
	}
	return orders, book
}

// readPage returns the order of the first line of a text and what is behind the line; false if it is not a line of a book, behind one with the sum before.
func readPage(text string, before int) (string, string, bool) {
	line, rest, ended := strings.Cut(text, "\n")
	_, order, _ := strings.Cut(line, " ")
	if !ended || !isPaper(order) || line != page(Sum(before, order), order) {
		return "", "", false
	}
	return order, rest, true
}

// readWhole returns the orders of a book: ErrBroken if a text is none.
func readWhole(book string) ([]string, api.Errno) {
	orders, rest := Read(book)
	if rest != "" {
		return nil, api.ErrBroken
	}
	return orders, api.OK
}

// Merge returns the longer one of two books, of which one is a beginning of the other, and the number of its orders;
// otherwise ErrProof, and the number of the first order at which they differ.
func Merge(a, b string) (string, int, api.Errno) {
	first, e := readWhole(a)
	if e != api.OK {
		return "", 0, e
	}
	second, e := readWhole(b)
	if e != api.OK {
		return "", 0, e
	}
	same := sameBeginning(first, second)
	switch same {
	case len(second):
		return a, len(first), api.OK
	case len(first):
		return b, len(second), api.OK
	}
	return "", same, api.ErrProof
}

// sameBeginning returns the number of the orders with which two lists begin in the same way.
func sameBeginning(a, b []string) int {
	n := 0
	for n < min(len(a), len(b)) && a[n] == b[n] {
		n++
	}
	return n
}
