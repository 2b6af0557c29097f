package calendar

import (
	"iter"
	"slices"

	"rivermark/api"
)

// Valid reports whether there is such a calendar block.
func Valid(b api.Bin) bool {
	return isLevel(b.Level) && isTick(b.From) && find(b.Level, b.From) == b
}

// Block returns the calendar block of a level that contains a tick.
func Block(level, tick int) (api.Bin, api.Errno) {
	if !isLevel(level) || !isTick(tick) {
		return api.Bin{}, api.ErrRange
	}
	return find(level, tick), api.OK
}

// Parent returns the calendar block of the next greater level.
func Parent(b api.Bin) (api.Bin, api.Errno) {
	if !Valid(b) {
		return api.Bin{}, api.ErrArg
	}
	if b.Level == api.LvYear {
		return api.Bin{}, api.ErrNone
	}
	return find(b.Level+1, b.From), api.OK
}

// Children returns the calendar blocks of the next lesser level.
func Children(b api.Bin) ([]api.Bin, api.Errno) {
	if !Valid(b) {
		return nil, api.ErrArg
	}
	if b.Level == api.LvRaw {
		return nil, api.ErrNone
	}
	return slices.Collect(within(b.Level-1, b.From, b.To)), api.OK
}

// Blocks returns the calendar blocks of a level that lie in an interval.
func Blocks(level, from, to int) ([]api.Bin, api.Errno) {
	if !isLevel(level) || !isInterval(from, to) {
		return nil, api.ErrRange
	}
	var l []api.Bin
	for b := range within(level, from, to) {
		if len(l) == api.MaxBins {
			return nil, api.ErrLimit
		}
		l = append(l, b)
	}
	return l, api.OK
}

// Cover returns the fewest calendar blocks that together are an interval.
func Cover(from, to int) ([]api.Bin, api.Errno) {
	if !isInterval(from, to) {
		return nil, api.ErrRange
	}
	var l []api.Bin
	// A block in the interval that no greater one in it contains takes the place of several lesser ones, so the cover has it. Lesser ones are needed only for what the blocks of a level leave at either end.
	var cover func(level, from, to int)
	cover = func(level, from, to int) {
		if from == to {
			return
		}
		for b := range within(level, from, to) {
			cover(level-1, from, b.From)
			l = append(l, b)
			from = b.To
		}
		cover(level-1, from, to)
	}
	cover(api.LvYear, from, to)
	return l, api.OK
}

// within yields the calendar blocks of a level that lie in an interval, one after the other.
func within(level, from, to int) iter.Seq[api.Bin] {
	return func(yield func(api.Bin) bool) {
		for at := from; at < to; {
			b := find(level, at)
			if b.To > to {
				return
			}
			// The first one may begin before the interval.
			if b.From >= from && !yield(b) {
				return
			}
			at = b.To
		}
	}
}

// find returns the calendar block of a level that contains a tick; there are such a level and such a tick.
func find(level, tick int) api.Bin {
	day := tick / api.DayTicks
	switch level {
	case api.LvRaw:
		return bin(level, tick, 1)
	case api.LvHour:
		return bin(level, tick-tick%api.HourTicks, api.HourTicks)
	case api.LvDay:
		return bin(level, api.DayTicks*day, api.DayTicks)
	}
	year, month, date, _ := Date(day)
	if level == api.LvMonth {
		return bin(level, api.DayTicks*(day-date+1), api.DayTicks*length(year, month))
	}
	first := firstDay(year)
	return bin(level, api.DayTicks*first, api.DayTicks*(firstDay(year+1)-first))
}

// bin returns the calendar block that begins at a tick and has some ticks.
func bin(level, from, ticks int) api.Bin {
	return api.Bin{Level: level, From: from, To: from + ticks}
}

// isLevel reports whether calendar blocks have a level.
func isLevel(level int) bool { return level >= api.LvRaw && level <= api.LvYear }

// isTick reports whether there is a tick.
func isTick(tick int) bool { return tick >= 0 && tick < api.MaxTick }

// isInterval reports whether an interval is valid.
func isInterval(from, to int) bool { return 0 <= from && from <= to && to <= api.MaxTick }
