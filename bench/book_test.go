package bench_test

import (
	"math"
	"slices"
	"strconv"
	"strings"
	"testing"

	"tinker/api"
	"tinker/bench"
	"tinker/sample"
)

// TestSum: the document's formula, for texts of any bytes and any numbers.
func TestSum(t *testing.T) {
	for _, x := range []struct {
		before int
		text   string
		want   int
	}{
		{0, "", 0}, {5, "", 5}, {1000002, "", 1000002}, {1000003, "", 0}, {-1, "", 1000002}, {-1000003, "", 0}, {-1000004, "", 1000002}, {2000007, "", 1},
		{0, "\x00", 1}, {0, "\xff", 256}, {0, "a", 98}, {1, "a", 355}, {0, "ab", 98*257 + 99}, {-1, "\x00", 1000003 - 256}, {0, "check", 821069},
	} {
		if got := bench.Sum(x.before, x.text); got != x.want {
			t.Errorf("P9.5: Sum of %d and %q: %d instead of %d", x.before, x.text, got, x.want)
		}
	}
	m := sample.New()
	for range 2000 {
		text := anyText(m, m.Below(40))
		for _, before := range []int{m.Below(1000003), m.Below(math.MaxInt), -m.Below(math.MaxInt), math.MinInt, math.MaxInt} {
			if got := bench.Sum(before, text); got != modelSum(before, text) {
				t.Errorf("P9.5: Sum of %d and %q: %d instead of %d", before, text, got, modelSum(before, text))
			}
		}
	}
	if got := bench.Sum(0, strings.Repeat("\xff", 100000)); !(got >= 0 && got < 1000003) || got != modelSum(0, strings.Repeat("\xff", 100000)) {
		t.Error("P9.5: Sum of a long text:", got)
	}
}

// anyText returns a text of n bytes of any kind, but for line feeds.
func anyText(m *sample.Maker, n int) string {
	b := make([]byte, n)
	for i := range b {
		b[i] = []byte{' ', '0', 'x', 0, 13, 255, byte(m.Below(256))}[m.Below(7)]
		if b[i] == '\n' {
			b[i] = ' '
		}
	}
	return string(b)
}

// anyOrders returns n texts that a book may have.
func anyOrders(m *sample.Maker, n int) []string {
	list := make([]string, n)
	for i := range list {
		list[i] = anyText(m, 1+m.Below(30))
	}
	return list
}

// TestWrite: books of any texts, and those that are none.
func TestWrite(t *testing.T) {
	if book, e := bench.Write([]string{"check"}); e != api.OK || book != "821069 check\n" {
		t.Errorf("P9.5: the document's example: %q %d", book, e)
	}
	m := sample.New()
	for n := range 81 {
		orders := anyOrders(m, n)
		book, e := bench.Write(orders)
		if e != api.OK || book != modelBook(orders) {
			t.Errorf("P9.5: Write: %q: %q %d", orders, book, e)
		}
		list, rest := bench.Read(book)
		if !slices.Equal(list, orders) || rest != "" {
			t.Errorf("P9.5: Read of Write: %q: %q %q", orders, list, rest)
		}
	}
	long := strings.Repeat("x", 31)
	for want, list := range map[api.Errno][][]string{
		api.OK:       {nil, {}, {" "}, {"\x00"}, {"\r"}, {long[:30]}, {"ä"}, {strings.Repeat("ä", 15)}, {"x", "x"}},
		api.ErrArg:   {{""}, {"\n"}, {"check\n"}, {"\ncheck"}, {"a\nb"}, {long}, {strings.Repeat("ä", 16)}, {"x", ""}, append(anyOrders(m, 79), "")},
		api.ErrLarge: {anyOrders(m, 81), make([]string, 81), make([]string, 5000), append(anyOrders(m, 80), long)},
	} {
		for _, orders := range list {
			if book, e := bench.Write(orders); e != want || e != api.OK && book != "" {
				t.Errorf("P9.5: Write: %q: %q, %d instead of %d", orders, book, e, want)
			}
		}
	}
}

// TestRead: texts that are no books, or not to their end.
func TestRead(t *testing.T) {
	check := modelBook([]string{"check"})
	two := modelBook([]string{"check", "check"})
	for _, x := range []struct {
		book   string
		orders int
	}{
		{"", 0}, {"\n", 0}, {" \n", 0}, {"0 \n", 0}, {"0\n", 0}, {check, 1}, {check[:len(check)-1], 0}, {"\n" + check, 0}, {check + "\n", 1}, {check + check, 1}, {two, 2}, {two[:len(two)-1], 1}, {two + "x", 2},
		{"0" + check, 0}, {"+" + check, 0}, {" " + check, 0}, {"821069  check\n", 0}, {"821069\tcheck\n", 0}, {"821069 check\r\n", 0}, {"821069check\n", 0}, {"821069 check \n", 0}, {"821070 check\n", 0}, {"1821072 check\n", 0}, {"-178934 check\n", 0}, {"check\n", 0}, {"821069\n", 0},
		{modelBook([]string{strings.Repeat("x", 30)}), 1}, {modelBook([]string{strings.Repeat("x", 31)}), 0}, {modelBook([]string{"check", strings.Repeat("x", 31), "check"}), 1}, {modelBook([]string{"check", "", "check"}), 1}, {modelBook([]string{"a\nb"}), 0},
		{modelBook(slices.Repeat([]string{"x"}, 80)), 80}, {modelBook(slices.Repeat([]string{"x"}, 81)), 80}, {modelBook(slices.Repeat([]string{"x"}, 200)), 80}, {modelBook([]string{" ", "  ", "1 2", " x"}), 4}, {modelBook([]string{"no order"}), 1},
	} {
		orders, rest := bench.Read(x.book)
		if len(orders) != x.orders || modelBook(orders)+rest != x.book {
			t.Errorf("P9.5: Read: %q: %q %q", x.book, orders, rest)
		}
	}
}

// TestReadSpoiled holds Read against the model, for books of which some bytes are altered, left out or put in.
func TestReadSpoiled(t *testing.T) {
	m := sample.New()
	for range 1500 {
		book := modelBook(anyOrders(m, m.Below(6)))
		if m.Below(10) == 0 {
			book = modelBook(anyOrders(m, 78+m.Below(6)))
		}
		if n := len(book); n > 0 && m.Below(8) > 0 {
			at := m.Below(n)
			part := []string{"", "\n", "0", " ", string([]byte{byte(m.Below(256))})}[m.Below(5)]
			book = book[:at] + part + book[at+m.Below(2):]
		}
		orders, rest := bench.Read(book)
		if want, left := modelRead(book); !slices.Equal(orders, want) || rest != left {
			t.Fatalf("P9.5: Read: %q: %q %q instead of %q %q", book, orders, rest, want, left)
		}
	}
}

// TestMerge: the books of beginnings of a list, and of lists that differ somewhere.
func TestMerge(t *testing.T) {
	m := sample.New()
	for range 300 {
		orders := anyOrders(m, m.Below(81))
		a, b := orders[:m.Below(len(orders)+1)], slices.Clone(orders)
		want, n, code := modelBook(b), len(b), api.OK
		if differ := m.Below(len(orders) + 1); differ < len(a) {
			b[differ] = "-" + strconv.Itoa(m.Below(1000))
			want, n, code = "", differ, api.ErrProof
		}
		for _, books := range [][2]string{{modelBook(a), modelBook(b)}, {modelBook(b), modelBook(a)}} {
			if got, number, e := bench.Merge(books[0], books[1]); got != want || number != n || e != code {
				t.Fatalf("P9.6: Merge: %q: %q %d %d", books, got, number, e)
			}
		}
	}
	x, xy, xz := modelBook([]string{"x"}), modelBook([]string{"x", "y"}), modelBook([]string{"x", "z"})
	for _, c := range []struct {
		a, b, want string
		n          int
		e          api.Errno
	}{
		{"", "", "", 0, api.OK}, {"", x, x, 1, api.OK}, {x, "", x, 1, api.OK}, {x, x, x, 1, api.OK}, {x, xy, xy, 2, api.OK}, {xy, x, xy, 2, api.OK}, {xy, xz, "", 1, api.ErrProof}, {x, modelBook([]string{"y"}), "", 0, api.ErrProof},
		{"x", "", "", 0, api.ErrBroken}, {"", "x", "", 0, api.ErrBroken}, {x, xy + "x", "", 0, api.ErrBroken}, {xy + "x", x, "", 0, api.ErrBroken}, {xy + "x", xz, "", 0, api.ErrBroken}, {xz, xy[:len(xy)-1], "", 0, api.ErrBroken}, {"x", "x", "", 0, api.ErrBroken},
		{x, modelBook(slices.Repeat([]string{"x"}, 81)), "", 0, api.ErrBroken}, {x, modelBook(slices.Repeat([]string{"x"}, 80)), modelBook(slices.Repeat([]string{"x"}, 80)), 80, api.OK},
	} {
		if got, n, e := bench.Merge(c.a, c.b); got != c.want || n != c.n || e != c.e {
			t.Errorf("P9.6: Merge: %q %q: %q %d %d", c.a, c.b, got, n, e)
		}
	}
}
