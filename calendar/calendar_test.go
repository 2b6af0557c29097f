package calendar_test

import (
	"math"
	"testing"
	"time"

	"rivermark/api"
	"rivermark/calendar"
)

// beginning is the time of the tick 0; the library's dates are those of the calendar too.
var beginning = time.Date(2000, time.January, 1, 0, 0, 0, 0, time.UTC)

// extremes are integers for which nothing exists, and at which sums and products leave the range of an int.
var extremes = []int{math.MinInt, math.MinInt + 1, math.MinInt / 2, -api.MaxTick, -1, math.MaxInt / 2, math.MaxInt - 1, math.MaxInt}

func TestLeap(t *testing.T) {
	for year := -3000; year <= 5000; year++ {
		if want := time.Date(year, time.February, 29, 0, 0, 0, 0, time.UTC).Day() == 29; calendar.Leap(year) != want {
			t.Errorf("P6.1: Leap of %d is %t", year, !want)
		}
	}
	for year, want := range map[int]bool{1900: false, 2000: true, 2100: false, 0: true, -4: true, -100: false, -400: true, math.MinInt: true, math.MinInt + 1: false, math.MaxInt: false, math.MaxInt - 7: false, math.MaxInt - 3: true} {
		if calendar.Leap(year) != want {
			t.Errorf("P6.1: Leap of %d is %t", year, !want)
		}
	}
}

func TestDate(t *testing.T) {
	for day := 0; day <= api.MaxDay; day++ {
		at := beginning.AddDate(0, 0, day)
		year, month, date, e := calendar.Date(day)
		if e != api.OK || year != at.Year() || month != int(at.Month()) || date != at.Day() {
			t.Fatalf("P6.1: Date of %d is %d %d %d, %d", day, year, month, date, e)
		}
	}
	for _, day := range append([]int{api.MaxDay + 1, api.MaxDay + 365, api.MaxTick}, extremes...) {
		if year, month, date, e := calendar.Date(day); year != 0 || month != 0 || date != 0 || e != api.ErrRange {
			t.Errorf("P6.1: Date of %d is %d %d %d, %d", day, year, month, date, e)
		}
	}
}

// TestDay has all dates of the years, and those around them that do not exist.
func TestDay(t *testing.T) {
	for year := api.FirstYear - 5; year < api.FirstYear+api.MaxYears+5; year++ {
		for month := -1; month <= 14; month++ {
			for date := -1; date <= 33; date++ {
				checkDay(t, year, month, date)
			}
		}
	}
	for _, n := range extremes {
		for _, date := range [][3]int{{n, 1, 1}, {2000, n, 1}, {2000, 1, n}, {n, n, 1}, {2000, n, n}, {n, 2, n}, {n, n, n}} {
			if day, e := calendar.Day(date[0], date[1], date[2]); day != 0 || e != api.ErrRange {
				t.Errorf("P6.1: Day of %d is %d, %d", date, day, e)
			}
		}
	}
}

// checkDay compares Day with the library's date, which is another one if there is no such date.
func checkDay(t *testing.T, year, month, date int) {
	t.Helper()
	at := time.Date(year, time.Month(month), date, 0, 0, 0, 0, time.UTC)
	want, wrong := int(at.Sub(beginning)/(24*time.Hour)), api.OK
	if year < 2000 || year > 2039 || at.Year() != year || int(at.Month()) != month || at.Day() != date {
		want, wrong = 0, api.ErrRange
	}
	if day, e := calendar.Day(year, month, date); day != want || e != wrong {
		t.Fatalf("P6.1: Day of %d %d %d is %d, %d", year, month, date, day, e)
	}
}

func TestExamplesOfDates(t *testing.T) {
	for day, want := range map[int][3]int{0: {2000, 1, 1}, 59: {2000, 2, 29}, 60: {2000, 3, 1}, 365: {2000, 12, 31}, 1520: {2004, 2, 29}, 14609: {2039, 12, 31}} {
		year, month, date, e := calendar.Date(day)
		if got := [3]int{year, month, date}; got != want || e != api.OK {
			t.Errorf("P6.1: Date of %d is %d, %d", day, got, e)
		}
		if got, e := calendar.Day(want[0], want[1], want[2]); got != day || e != api.OK {
			t.Errorf("P6.1: Day of %d is %d, %d", want, got, e)
		}
	}
	if day, e := calendar.Day(2001, 2, 29); day != 0 || e != api.ErrRange {
		t.Errorf("P6.1: Day of 2001 2 29 is %d, %d", day, e)
	}
}

func TestDaysAndDates(t *testing.T) {
	type date struct{ year, month, date int }
	before := date{1999, 12, 31}
	for day := 0; day <= api.MaxDay; day++ {
		year, month, number, _ := calendar.Date(day)
		if back, e := calendar.Day(year, month, number); back != day || e != api.OK {
			t.Fatalf("P6.6: Day of Date of %d is %d, %d", day, back, e)
		}
		now := date{year, month, number}
		next := now == date{before.year, before.month, before.date + 1} || now == date{before.year, before.month + 1, 1} || now == date{before.year + 1, 1, 1}
		if !next {
			t.Fatalf("P6.6: the date %d follows %d", now, before)
		}
		before = now
	}
}
