package bench

import (
	"errors"

	"tinker/api"
)

// Replay makes a bench, and executes the orders of a book; it returns the bench and the number of the orders.
// If an order is refused, the number is that of the order.
func Replay(p []api.Line, book string) (*Bench, int, api.Errno) {
	s, e := begin(p)
	if e != api.OK {
		return nil, 0, e
	}
	orders, e := readWhole(book)
	if e != api.OK {
		return nil, 0, e
	}
	s, err := s.afterAll(orders)
	var r refusal
	if errors.As(err, &r) {
		return nil, r.number, r.why
	}
	return &Bench{now: s}, len(orders), api.OK
}

// Run makes a bench, executes orders, and returns the error of each of them and the book.
func Run(p []api.Line, orders []string) ([]api.Errno, string, api.Errno) {
	b, e := New(p)
	if e != api.OK {
		return nil, "", e
	}
	if len(orders) > api.MaxPages {
		return nil, "", api.ErrLarge
	}
	errs := make([]api.Errno, len(orders))
	for i, order := range orders {
		errs[i] = b.Do(order)
	}
	return errs, b.Book(), api.OK
}
