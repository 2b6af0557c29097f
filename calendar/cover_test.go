package calendar_test

import (
	"math/rand"
	"slices"
	"testing"

	"rivermark/api"
	"rivermark/calendar"
)

// shortest is what the shortest lists of calendar blocks are that begin at a tick and end at each later one: how many blocks they have, how many such lists there are (2 stands for more too), and their last block.
type shortest struct {
	length, lists int
	last          api.Bin
}

// shortestFrom returns the shortest lists from a tick to each one up to another one, by trying all calendar blocks.
func shortestFrom(ending [][]api.Bin, from, to int) []shortest {
	l := make([]shortest, to-from+1)
	l[0].lists = 1
	for at := from + 1; at <= to; at++ {
		best := shortest{length: at - from + 1}
		for _, b := range ending[at] {
			if b.From < from {
				continue
			}
			before := l[b.From-from]
			switch length := before.length + 1; {
			case length < best.length:
				best = shortest{length, before.lists, b}
			case length == best.length:
				best.lists = 2
			}
		}
		l[at-from] = best
	}
	return l
}

// endingAt returns for each tick the calendar blocks that end there.
func endingAt() [][]api.Bin {
	l := make([][]api.Bin, api.MaxTick+1)
	for level := range 5 {
		for _, b := range allBlocks(level) {
			l[b.To] = append(l[b.To], b)
		}
	}
	return l
}

// list returns the shortest list to a tick.
func list(l []shortest, from, to int) []api.Bin {
	var blocks []api.Bin
	for to > from {
		last := l[to-from].last
		blocks = append(blocks, last)
		to = last.From
	}
	slices.Reverse(blocks)
	return blocks
}

// checkCovers compares the covers from a tick to others with the shortest lists.
func checkCovers(t *testing.T, ending [][]api.Bin, from, to, step int) {
	t.Helper()
	l := shortestFrom(ending, from, to)
	for end := to; end >= from; end -= step {
		got, e := calendar.Cover(from, end)
		if !slices.Equal(got, list(l, from, end)) || e != api.OK {
			t.Fatalf("P6.5: Cover of %d to %d is %v, %d", from, end, got, e)
		}
		if l[end-from].lists != 1 {
			t.Fatalf("P6.5: there is more than one cover of %d to %d", from, end)
		}
		if len(got) > 180 {
			t.Fatalf("P6.8: Cover of %d to %d has %d blocks", from, end, len(got))
		}
	}
}

func TestCover(t *testing.T) {
	ending := endingAt()
	for _, at := range []int{0, 2976, 5760, 35136, 70176, 1520 * 96, api.MaxTick - 200} {
		for from := max(at-110, 0); from < at+110; from++ {
			checkCovers(t, ending, from, min(from+210, api.MaxTick), 1)
		}
	}
	rng := rand.New(rand.NewSource(66))
	checkCovers(t, ending, 0, api.MaxTick, 50)
	checkCovers(t, ending, 1, api.MaxTick, 51)
	for range 4 {
		checkCovers(t, ending, rng.Intn(api.MaxTick/2), api.MaxTick, 97)
	}
	for range 40 {
		from := rng.Intn(api.MaxTick - 80000)
		checkCovers(t, ending, from, from+80000, 13)
	}
}

func TestExamplesOfCovers(t *testing.T) {
	hours := slices.Repeat([]int{api.LvHour}, 23)
	for _, x := range []struct {
		from, to int
		levels   []int
	}{
		{0, 0, nil},
		{5, 5, nil},
		{api.MaxTick, api.MaxTick, nil},
		{0, 1, []int{0}},
		{api.MaxTick - 1, api.MaxTick, []int{0}},
		{3, 97, slices.Concat([]int{0}, hours, []int{0})},
		{0, 35136, []int{4}},
		{0, api.MaxTick, slices.Repeat([]int{4}, 40)},
	} {
		l, e := calendar.Cover(x.from, x.to)
		if len(l) != len(x.levels) || e != api.OK {
			t.Errorf("P6.5: Cover of %d to %d is %v, %d", x.from, x.to, l, e)
			continue
		}
		at := x.from
		for i, b := range l {
			if b.Level != x.levels[i] || b.From != at {
				t.Errorf("P6.5: Cover of %d to %d has %v at %d", x.from, x.to, b, i)
			}
			at = b.To
		}
	}
}

// TestLongestCover has the interval that is worst at both ends: 3 ticks, 23 hours, 30 days and 11 months there, and all other years.
func TestLongestCover(t *testing.T) {
	l, e := calendar.Cover(1, api.MaxTick-1)
	if len(l) != 2*(3+23+30+11)+38 || e != api.OK {
		t.Errorf("P6.8: the longest cover has %d blocks, %d", len(l), e)
	}
}

func TestWrongCovers(t *testing.T) {
	for _, x := range wrongIntervals() {
		if l, e := calendar.Cover(x[0], x[1]); len(l) != 0 || e != api.ErrRange {
			t.Errorf("P6.5: Cover of %d is %v, %d", x, l, e)
		}
	}
}
