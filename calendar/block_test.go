package calendar_test

import (
	"math/rand"
	"slices"
	"testing"
	"time"

	"rivermark/api"
	"rivermark/calendar"
)

const quarter = 15 * time.Minute

// tickOf returns the tick that begins at a time.
func tickOf(at time.Time) int { return int(at.Sub(beginning) / quarter) }

// blockOf returns the calendar block of a level that contains a tick, by the library's dates.
func blockOf(level, tick int) api.Bin {
	at := beginning.Add(time.Duration(tick) * quarter)
	year, month, date := at.Date()
	from, to := at, at.Add(quarter)
	switch level {
	case api.LvHour:
		from = time.Date(year, month, date, at.Hour(), 0, 0, 0, time.UTC)
		to = from.Add(time.Hour)
	case api.LvDay:
		from = time.Date(year, month, date, 0, 0, 0, 0, time.UTC)
		to = from.AddDate(0, 0, 1)
	case api.LvMonth:
		from = time.Date(year, month, 1, 0, 0, 0, 0, time.UTC)
		to = from.AddDate(0, 1, 0)
	case api.LvYear:
		from = time.Date(year, 1, 1, 0, 0, 0, 0, time.UTC)
		to = from.AddDate(1, 0, 0)
	}
	return api.Bin{Level: level, From: tickOf(from), To: tickOf(to)}
}

// allBlocks returns all calendar blocks of a level.
func allBlocks(level int) []api.Bin {
	var l []api.Bin
	for at := 0; at < api.MaxTick; at = l[len(l)-1].To {
		l = append(l, blockOf(level, at))
	}
	return l
}

// blocksIn returns those of all calendar blocks of a level that lie in an interval.
func blocksIn(all []api.Bin, from, to int) []api.Bin {
	first, _ := slices.BinarySearchFunc(all, from, func(b api.Bin, at int) int { return b.From - at })
	rest := all[first:]
	count, _ := slices.BinarySearchFunc(rest, to+1, func(b api.Bin, at int) int { return b.To - at })
	return rest[:count]
}

// someTicks returns ticks at which a block of a level begins or ends, those beside them, and any other ones.
func someTicks(rng *rand.Rand) []int {
	l := []int{0, 1, 2, 3, 4, 95, 96, 97, api.MaxTick - 97, api.MaxTick - 96, api.MaxTick - 4, api.MaxTick - 2, api.MaxTick - 1}
	for range 3000 {
		tick := rng.Intn(api.MaxTick)
		b := blockOf(rng.Intn(5), tick)
		l = append(l, tick, b.From, max(b.From-1, 0), min(b.From+1, api.MaxTick-1), b.To-1)
	}
	return l
}

func TestBlock(t *testing.T) {
	for _, tick := range someTicks(rand.New(rand.NewSource(62))) {
		for level := range 5 {
			if b, e := calendar.Block(level, tick); b != blockOf(level, tick) || e != api.OK {
				t.Fatalf("P6.2: Block of %d and %d is %v, %d", level, tick, b, e)
			}
		}
	}
	wrong := append([]int{api.MaxTick, api.MaxTick + 1}, extremes...)
	for level := range 5 {
		for _, tick := range wrong {
			checkNoBlock(t, level, tick)
		}
	}
	for _, level := range append([]int{5, 6}, extremes...) {
		for _, tick := range append([]int{0, 7, api.MaxTick - 1}, wrong...) {
			checkNoBlock(t, level, tick)
		}
	}
}

func checkNoBlock(t *testing.T, level, tick int) {
	t.Helper()
	if b, e := calendar.Block(level, tick); b != (api.Bin{}) || e != api.ErrRange {
		t.Errorf("P6.2: Block of %d and %d is %v, %d", level, tick, b, e)
	}
}

func TestValid(t *testing.T) {
	for _, tick := range someTicks(rand.New(rand.NewSource(26))) {
		for level := range 5 {
			b := blockOf(level, tick)
			if !calendar.Valid(b) {
				t.Fatalf("P6.2: %v is not valid", b)
			}
			for other := -1; other <= 5; other++ {
				if b.Level = other; calendar.Valid(b) != (other == level) {
					t.Fatalf("P6.2: Valid of %v is %t", b, other != level)
				}
			}
		}
	}
	for _, b := range wrongBlocks() {
		if calendar.Valid(b) {
			t.Errorf("P6.2: %v is valid", b)
		}
	}
}

// wrongBlocks returns calendar blocks that there are not, most of them almost like one that there is.
func wrongBlocks() []api.Bin {
	l := []api.Bin{{Level: 1}, {Level: 2, From: 96}, {Level: 1, From: 5, To: 9}, {Level: 2, From: 4, To: 100}, {Level: 3, From: 96, To: 96 + 2976}, {Level: 4, From: 35040, To: 70080}, {Level: 0, To: api.MaxTick}, {Level: 4, To: api.MaxTick}}
	rng := rand.New(rand.NewSource(63))
	for level := range 5 {
		width := blockOf(level, 0).To
		l = append(l, api.Bin{Level: level, From: -width, To: 0}, api.Bin{Level: level, From: api.MaxTick, To: api.MaxTick + width})
		for range 50 {
			b := blockOf(level, rng.Intn(api.MaxTick))
			next := b.To - b.From
			for _, step := range []int{-next, -4, -1, 1, 4, next} {
				l = append(l, api.Bin{Level: level, From: b.From + step, To: b.To}, api.Bin{Level: level, From: b.From, To: b.To + step})
			}
			l = append(l, api.Bin{Level: level, From: b.From + 1, To: b.To + 1}, api.Bin{Level: level, From: b.To, To: b.From}, api.Bin{Level: level - 1, From: b.From, To: b.To}, api.Bin{Level: level + 1, From: b.From, To: b.To})
		}
	}
	for _, n := range extremes {
		l = append(l, api.Bin{Level: n, From: 4, To: 8}, api.Bin{Level: 1, From: n, To: 8}, api.Bin{Level: 1, From: 4, To: n}, api.Bin{Level: 0, From: n, To: n + 1}, api.Bin{Level: 1, From: n, To: n + 4}, api.Bin{Level: 3, From: n, To: n}, api.Bin{Level: n, From: n, To: n})
	}
	// The tick after a tick, which is among these, exists.
	return slices.DeleteFunc(l, func(b api.Bin) bool {
		return b.Level >= 0 && b.Level <= 4 && b.From >= 0 && b.From < api.MaxTick && blockOf(b.Level, b.From) == b
	})
}

func TestParentAndChildren(t *testing.T) {
	for _, tick := range someTicks(rand.New(rand.NewSource(64))) {
		for level := range 5 {
			b := blockOf(level, tick)
			want, wrong := api.Bin{}, api.ErrNone
			if level < 4 {
				want, wrong = blockOf(level+1, tick), api.OK
			}
			if p, e := calendar.Parent(b); p != want || e != wrong {
				t.Fatalf("P6.3: Parent of %v is %v, %d", b, p, e)
			}
			if level == 0 {
				if l, e := calendar.Children(b); len(l) != 0 || e != api.ErrNone {
					t.Fatalf("P6.3: Children of %v are %v, %d", b, l, e)
				}
			}
		}
	}
	for level := 1; level < 5; level++ {
		lesser, blocks := allBlocks(level-1), allBlocks(level)
		for i := 0; i < len(blocks); i += 1 + len(blocks)/5000 {
			b := blocks[i]
			if l, e := calendar.Children(b); !slices.Equal(l, blocksIn(lesser, b.From, b.To)) || e != api.OK {
				t.Fatalf("P6.3: Children of %v are %v, %d", b, l, e)
			}
		}
	}
	for _, b := range wrongBlocks() {
		p, e := calendar.Parent(b)
		l, f := calendar.Children(b)
		if p != (api.Bin{}) || e != api.ErrArg || len(l) != 0 || f != api.ErrArg {
			t.Errorf("P6.3: Parent and Children of %v are %v, %d, and %v, %d", b, p, e, l, f)
		}
	}
}

func TestBlocks(t *testing.T) {
	rng := rand.New(rand.NewSource(65))
	ticks := append(someTicks(rng), api.MaxTick)
	for level := range 5 {
		all := allBlocks(level)
		for range 3000 {
			from, to := ticks[rng.Intn(len(ticks))], ticks[rng.Intn(len(ticks))]
			if rng.Intn(2) == 0 {
				to = min(from+rng.Intn(3*blockOf(level, 0).To), api.MaxTick)
			}
			if from > to {
				from, to = to, from
			}
			checkBlocks(t, level, from, to, blocksIn(all, from, to))
		}
		checkBlocks(t, level, 0, api.MaxTick, all)
		for _, width := range []int{api.MaxBins - 1, api.MaxBins, api.MaxBins + 1} {
			if width > len(all) {
				continue
			}
			last := all[len(all)-width:]
			checkBlocks(t, level, all[0].From, all[width-1].To, all[:width])
			checkBlocks(t, level, last[0].From, api.MaxTick, last)
			if level > 0 && width < len(all) {
				checkBlocks(t, level, all[0].From, all[width-1].To+1, all[:width])
				checkBlocks(t, level, last[0].From-1, api.MaxTick, last)
			}
		}
	}
}

// checkBlocks checks the blocks of a level in an interval, which are as many as wanted, or too many.
func checkBlocks(t *testing.T, level, from, to int, want []api.Bin) {
	t.Helper()
	wrong := api.OK
	if len(want) > api.MaxBins {
		want, wrong = nil, api.ErrLimit
	}
	if l, e := calendar.Blocks(level, from, to); !slices.Equal(l, want) || e != wrong {
		t.Fatalf("P6.4: Blocks of %d in %d to %d are %d, %d", level, from, to, len(l), e)
	}
}

// wrongIntervals are intervals that are not valid.
func wrongIntervals() [][2]int {
	l := [][2]int{{-1, 5}, {-1, -1}, {5, 4}, {1, 0}, {api.MaxTick, api.MaxTick - 1}, {0, api.MaxTick + 1}, {api.MaxTick + 1, api.MaxTick + 1}, {api.MaxTick, 0}}
	for _, n := range extremes {
		l = append(l, [2]int{n, 5}, [2]int{n, n})
		if n < 0 || n > api.MaxTick {
			l = append(l, [2]int{0, n})
		}
	}
	return l
}

func TestWrongBlocks(t *testing.T) {
	for _, x := range wrongIntervals() {
		for level := range 5 {
			if l, e := calendar.Blocks(level, x[0], x[1]); len(l) != 0 || e != api.ErrRange {
				t.Errorf("P6.4: Blocks of %d in %d are %d, %d", level, x, len(l), e)
			}
		}
	}
	for _, level := range append([]int{5, 6}, extremes...) {
		for _, x := range append([][2]int{{0, 0}, {0, 5}, {0, api.MaxTick}}, wrongIntervals()...) {
			if l, e := calendar.Blocks(level, x[0], x[1]); len(l) != 0 || e != api.ErrRange {
				t.Errorf("P6.4: Blocks of %d in %d are %d, %d", level, x, len(l), e)
			}
		}
	}
}

func TestExamplesOfBlocks(t *testing.T) {
	for level, x := range [][3]int{{7, 7, 8}, {7, 4, 8}, {95, 0, 96}, {3000, 2976, 5760}, {35136, 35136, 70176}} {
		if b, e := calendar.Block(level, x[0]); b != (api.Bin{Level: level, From: x[1], To: x[2]}) || e != api.OK {
			t.Errorf("P6.2: Block of %d and %d is %v, %d", level, x[0], b, e)
		}
	}
	hour := api.Bin{Level: api.LvHour, From: 4, To: 8}
	if p, e := calendar.Parent(hour); p != (api.Bin{Level: api.LvDay, From: 0, To: 96}) || e != api.OK {
		t.Errorf("P6.3: Parent of %v is %v, %d", hour, p, e)
	}
	if l, e := calendar.Children(hour); !slices.Equal(l, []api.Bin{{From: 4, To: 5}, {From: 5, To: 6}, {From: 6, To: 7}, {From: 7, To: 8}}) || e != api.OK {
		t.Errorf("P6.3: Children of %v are %v, %d", hour, l, e)
	}
	if l, e := calendar.Blocks(api.LvDay, 90, 300); !slices.Equal(l, []api.Bin{{Level: 2, From: 96, To: 192}, {Level: 2, From: 192, To: 288}}) || e != api.OK {
		t.Errorf("P6.4: Blocks of days in 90 to 300 are %v, %d", l, e)
	}
}

// TestNesting goes through all calendar blocks, from the years down.
func TestNesting(t *testing.T) {
	var counts [5]int
	var descend func(b api.Bin)
	descend = func(b api.Bin) {
		counts[b.Level]++
		if !calendar.Valid(b) {
			t.Fatalf("P6.7: %v is not valid", b)
		}
		if b.Level == api.LvRaw {
			return
		}
		at := b.From
		children, _ := calendar.Children(b)
		for _, c := range children {
			if c.From != at || c.Level != b.Level-1 {
				t.Fatalf("P6.7: %v has the child %v at %d", b, c, at)
			}
			if p, e := calendar.Parent(c); p != b || e != api.OK {
				t.Fatalf("P6.7: the parent of %v is %v, %d", c, p, e)
			}
			descend(c)
			at = c.To
		}
		if at != b.To {
			t.Fatalf("P6.7: the children of %v end at %d", b, at)
		}
	}
	years, e := calendar.Blocks(api.LvYear, 0, api.MaxTick)
	if len(years) != api.MaxYears || years[0].From != 0 || years[len(years)-1].To != api.MaxTick || e != api.OK {
		t.Fatalf("P6.7: the years are %v, %d", years, e)
	}
	for i, year := range years {
		if i > 0 && year.From != years[i-1].To {
			t.Fatalf("P6.7: %v follows %v", year, years[i-1])
		}
		descend(year)
	}
	// As these are all that are valid, any two of them contain one another or are apart.
	if counts != [5]int{api.MaxTick, api.MaxTick / 4, api.MaxDay + 1, 480, 40} {
		t.Errorf("P6.7: there are %d blocks", counts)
	}
}

// TestResultsAreNewMemory changes results, which must not matter to later ones.
func TestResultsAreNewMemory(t *testing.T) {
	year := blockOf(api.LvYear, 0)
	lists := map[string]func() ([]api.Bin, api.Errno){
		"Children": func() ([]api.Bin, api.Errno) { return calendar.Children(year) },
		"Blocks":   func() ([]api.Bin, api.Errno) { return calendar.Blocks(api.LvMonth, 0, year.To) },
		"Cover":    func() ([]api.Bin, api.Errno) { return calendar.Cover(1, year.To) },
	}
	for name, list := range lists {
		l, _ := list()
		before := slices.Clone(l)
		clear(l[:cap(l)])
		if again, _ := list(); !slices.Equal(again, before) {
			t.Errorf("the result of %s has changed", name)
		}
	}
}
