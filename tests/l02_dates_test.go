package tests

import (
	"fmt"
	"math"
	"strings"
	"testing"
	"time"

	"loop.example/g01013/impl"
)

// timeOf returns a day in Go's own calendar, which needs no clock.
func timeOf(day int64) time.Time {
	return time.Date(2000, time.January, 1+int(day), 0, 0, 0, 0, time.UTC)
}

// nearTexts calls use for all texts that differ from s in one byte: another one, one more or one less.
func nearTexts(s string, use func(string)) {
	for i := range len(s) + 1 {
		for b := range 256 {
			c := string([]byte{byte(b)})
			use(s[:i] + c + s[i:])
			if i < len(s) {
				use(s[:i] + c + s[i+1:])
			}
		}
		if i < len(s) {
			use(s[:i] + s[i+1:])
		}
	}
}

// otherNumbers holds numbers far outside of all that chapters 2 and 3 allow.
func otherNumbers() []int64 {
	return []int64{math.MinInt64, math.MinInt64 + 1, math.MaxInt64, math.MaxInt64 - 1, 1 << 32, -1 << 32, impl.MaxValue + 1, -impl.MaxValue - 1}
}

func TestConstantsOfUnits(t *testing.T) {
	if impl.MaxDate != 36524 || impl.MaxUnit != 1000000000 {
		t.Error(impl.MaxDate, impl.MaxUnit)
	}
}

func TestDaysLeadToDatesAndBack(t *testing.T) {
	for day := int64(0); day <= impl.MaxDate; day++ {
		want := timeOf(day)
		year, month, date, code := impl.DateOf(day)
		if code != impl.OK || year != int64(want.Year()) || month != int64(want.Month()) || date != int64(want.Day()) {
			t.Fatalf("DateOf(%d) = %d, %d, %d, %d", day, year, month, date, code)
		}
		if got, code := impl.DayNumber(year, month, date); got != day || code != impl.OK {
			t.Fatalf("DayNumber(%d, %d, %d) = %d, %d", year, month, date, got, code)
		}
		// Go counts from Sunday on.
		if got, code := impl.WeekdayOf(day); got != int64(want.Weekday()+6)%7 || code != impl.OK {
			t.Fatalf("WeekdayOf(%d) = %d, %d", day, got, code)
		}
	}
}

func TestKnownDays(t *testing.T) {
	for _, c := range [][5]int64{
		{0, 2000, 1, 1, 5}, {1, 2000, 1, 2, 6}, {2, 2000, 1, 3, 0}, {30, 2000, 1, 31, 0}, {31, 2000, 2, 1, 1},
		{58, 2000, 2, 28, 0}, {59, 2000, 2, 29, 1}, {60, 2000, 3, 1, 2}, {365, 2000, 12, 31, 6}, {366, 2001, 1, 1, 0},
		{424, 2001, 2, 28, 2}, {425, 2001, 3, 1, 3}, {730, 2001, 12, 31, 0}, {9000, 2024, 8, 22, 3}, {36524, 2099, 12, 31, 3},
	} {
		year, month, date, code := impl.DateOf(c[0])
		weekday, other := impl.WeekdayOf(c[0])
		if got := [5]int64{c[0], year, month, date, weekday}; got != c || code != impl.OK || other != impl.OK {
			t.Errorf("got %v, codes %d and %d, want %v", got, code, other, c)
		}
	}
}

func TestNoDays(t *testing.T) {
	for _, day := range append(otherNumbers(), -1, -365, impl.MaxDate+1, impl.MaxDate+365) {
		if year, month, date, code := impl.DateOf(day); year != 0 || month != 0 || date != 0 || code != impl.ErrRange {
			t.Errorf("DateOf(%d) = %d, %d, %d, %d", day, year, month, date, code)
		}
		if weekday, code := impl.WeekdayOf(day); weekday != 0 || code != impl.ErrRange {
			t.Errorf("WeekdayOf(%d) = %d, %d", day, weekday, code)
		}
		if s := impl.DateText(day); s != "" {
			t.Errorf("DateText(%d) = %q", day, s)
		}
	}
}

func TestDayNumberOfAllDates(t *testing.T) {
	for year := int64(1998); year <= 2105; year++ {
		for month := int64(-1); month <= 14; month++ {
			for date := int64(-1); date <= 33; date++ {
				checkDayNumber(t, year, month, date)
			}
		}
	}
}

// checkDayNumber compares with Go's calendar, which moves a date that there is not to another one.
func checkDayNumber(t *testing.T, year, month, date int64) {
	t.Helper()
	moved := time.Date(int(year), time.Month(month), int(date), 0, 0, 0, 0, time.UTC)
	want, wanted := int64(0), int64(impl.ErrRange)
	if moved.Month() == time.Month(month) && moved.Day() == int(date) && year >= 2000 && year <= 2099 {
		want, wanted = int64(moved.Sub(timeOf(0)).Hours())/24, impl.OK
	}
	if got, code := impl.DayNumber(year, month, date); got != want || code != wanted {
		t.Errorf("DayNumber(%d, %d, %d) = %d, %d, want %d, %d", year, month, date, got, code, want, wanted)
	}
}

func TestDayNumberOfOtherNumbers(t *testing.T) {
	for place := range 3 {
		for _, n := range append(otherNumbers(), 0, -1) {
			c := [3]int64{2024, 8, 22}
			c[place] = n
			if got, code := impl.DayNumber(c[0], c[1], c[2]); got != 0 || code != impl.ErrRange {
				t.Errorf("DayNumber(%v) = %d, %d", c, got, code)
			}
		}
	}
}

func TestDateTextsAreReadBack(t *testing.T) {
	for day := int64(0); day <= impl.MaxDate; day++ {
		want := timeOf(day).Format("2006-01-02")
		if got := impl.DateText(day); got != want {
			t.Fatalf("DateText(%d) = %q, want %q", day, got, want)
		}
		if got, ok := impl.ReadDate(want); got != day || !ok {
			t.Fatalf("ReadDate(%q) = %d, %v", want, got, ok)
		}
	}
}

func TestReadDateOfOtherTexts(t *testing.T) {
	for _, s := range []string{
		"", "-", "--", "----------", "2000", "2000-01", "2000-01-", "-01-01", "2000-01-01-", "2000-01-01-01", "2000--01-01", "20000101", "2000-0101", "200001-01",
		"2000-1-01", "2000-01-1", "2000-1-1", "02000-01-01", "2000-001-01", "2000-01-001", "2000-1-001", "200-001-001", "00-01-01",
		"+2000-01-01", "-2000-01-01", "2000-+1-01", "2000-01-+1", "2000--1-01", "2000-01--1", "+000-01-01",
		" 2000-01-01", "2000-01-01 ", "2000- 1-01", "2000-01- 1", "2000 01 01", "2000/01/01", "2000.01.01", "2000:01:01", "2000-01:01", "2000-01-01\n", "2000-01-01\x00",
		"2000-00-01", "2000-13-01", "2000-01-00", "2000-01-32", "2000-02-30", "2001-02-29", "2099-02-29", "2000-04-31", "2000-06-31", "2000-09-31", "2000-11-31", "2000-12-32",
		"1999-12-31", "2100-01-01", "0000-01-01", "9999-12-31", "01-01-2000", "2000-31-01", "2000-1a-01", "2000-01-0x", "2000-01-\xb21", "\uff12000-01-01",
		"18446744073709553616-01-01", "2000-18446744073709551617-01", strings.Repeat("2000-01-01", 1000), strings.Repeat("-", 100000), "2000-01-" + strings.Repeat("0", 100000) + "1",
	} {
		if day, ok := impl.ReadDate(s); day != 0 || ok {
			t.Errorf("ReadDate(%.40q) = %d, %v", s, day, ok)
		}
	}
}

func TestReadDateOfNearTexts(t *testing.T) {
	days := map[string]int64{}
	for day := int64(0); day <= impl.MaxDate; day++ {
		days[timeOf(day).Format("2006-01-02")] = day
	}
	for _, s := range []string{"2000-01-01", "2000-02-29", "2001-02-28", "2019-10-30", "2024-11-09", "2099-12-31"} {
		nearTexts(s, func(s string) {
			want, wanted := days[s]
			if got, ok := impl.ReadDate(s); got != want || ok != wanted {
				t.Errorf("ReadDate(%q) = %d, %v, want %d, %v", s, got, ok, want, wanted)
			}
		})
	}
}

// clockTexts holds the texts of all minutes.
func clockTexts() map[string]int64 {
	texts := map[string]int64{}
	for minute := range int64(1440) {
		texts[fmt.Sprintf("%02d:%02d", minute/60, minute%60)] = minute
	}
	return texts
}

func TestClockTextsAreReadBack(t *testing.T) {
	for s, minute := range clockTexts() {
		if got := impl.ClockText(minute); got != s {
			t.Errorf("ClockText(%d) = %q, want %q", minute, got, s)
		}
		if got, ok := impl.ReadClock(s); got != minute || !ok {
			t.Errorf("ReadClock(%q) = %d, %v", s, got, ok)
		}
	}
}

func TestKnownClockTexts(t *testing.T) {
	for minute, want := range map[int64]string{0: "00:00", 1: "00:01", 59: "00:59", 60: "01:00", 605: "10:05", 719: "11:59", 1380: "23:00", 1439: "23:59"} {
		if got := impl.ClockText(minute); got != want {
			t.Errorf("ClockText(%d) = %q, want %q", minute, got, want)
		}
	}
	for _, minute := range append(otherNumbers(), -1, -60, -1440, 1440, 1441, 1500) {
		if got := impl.ClockText(minute); got != "" {
			t.Errorf("ClockText(%d) = %q", minute, got)
		}
	}
}

func TestReadClockOfOtherTexts(t *testing.T) {
	for _, s := range []string{
		"", ":", "::", "24:00", "23:60", "00:60", "00:99", "99:00", "24:01", "25:30", "1:00", "01:0", "1:0", "001:00", "01:000", "1:005", "0100", "01", "01:", ":01",
		"+1:00", "-1:00", "01:+0", "01:-0", "-0:00", " 1:00", "01: 0", " 01:00", "01:00 ", "01 00", "01-00", "01.00", "01;00", "01:00:", "01:00:00", "01::00", ":01:00",
		"0a:00", "01:0x", "\x80\x80:00", "\uff10\uff11:00", "01:00\n", "01\x00:00", "00:1439", "0:1439", "18446744073709551617:00", "307445734561825861:00",
		strings.Repeat("0", 100000) + ":00", "00:" + strings.Repeat("0", 100000), strings.Repeat(":", 100000),
	} {
		if minute, ok := impl.ReadClock(s); minute != 0 || ok {
			t.Errorf("ReadClock(%.40q) = %d, %v", s, minute, ok)
		}
	}
}

func TestReadClockOfNearAndShortTexts(t *testing.T) {
	minutes := clockTexts()
	check := func(s string) {
		want, wanted := minutes[s]
		if got, ok := impl.ReadClock(s); got != want || ok != wanted {
			t.Errorf("ReadClock(%q) = %d, %v, want %d, %v", s, got, ok, want, wanted)
		}
	}
	for _, s := range []string{"00:00", "09:10", "19:59", "23:59"} {
		nearTexts(s, check)
	}
	everyText("012346:-9", 5, check)
}
