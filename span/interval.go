package span

import (
	"tinker/api"
	"tinker/kit"
)

// interval is a range, with what can be asked of it. One whose Low is above its High has no numbers.
type interval api.Range

// only returns the interval of one number.
func only(n int) interval {
	return interval{n, n}
}

func (x interval) has(n int) bool {
	return kit.IsBetween(n, x.Low, x.High)
}

func (x interval) isEmpty() bool {
	return x.Low > x.High
}

func (x interval) isWithin(y interval) bool {
	return y.Low <= x.Low && x.High <= y.High
}

func (x interval) width() int {
	return x.High - x.Low
}

// cut returns the interval with both bounds cut to what a register may be.
func (x interval) cut() interval {
	return interval{kit.Cut(x.Low), kit.Cut(x.High)}
}

// hull returns the least interval that has the numbers of both.
func (x interval) hull(y interval) interval {
	return interval{min(x.Low, y.Low), max(x.High, y.High)}
}

// meet returns the numbers that both have.
func (x interval) meet(y interval) interval {
	return interval{max(x.Low, y.Low), min(x.High, y.High)}
}

func (x interval) plus(y interval) interval {
	return interval{x.Low + y.Low, x.High + y.High}
}

func (x interval) minus(y interval) interval {
	return interval{x.Low - y.High, x.High - y.Low}
}

func (x interval) least(y interval) interval {
	return interval{min(x.Low, y.Low), min(x.High, y.High)}
}

func (x interval) greatest(y interval) interval {
	return interval{max(x.Low, y.Low), max(x.High, y.High)}
}

// halves returns the lower and the upper half of an interval of more than one number.
func (x interval) halves() (interval, interval) {
	// A shift rounds down for numbers below 0 too; a division would round toward 0.
	middle := (x.Low + x.High) >> 1
	return interval{x.Low, middle}, interval{middle + 1, x.High}
}
