package tests

import (
	"math/big"
	"slices"
	"testing"

	"loop.example/g01013/impl"
)

// otherHours holds numbers that are no hours of observations.
func otherHours() []int64 { return append(otherNumbers(), -1, 100001) }

// snowAsTold returns the snow of an hour and whether there is one, in wide integers between two observations.
func snowAsTold(list []impl.Observed, hour int64) (int64, bool) {
	for i, x := range list {
		if x.Hour == hour {
			return x.Snow, true
		}
		if i > 0 && list[i-1].Hour < hour && hour < x.Hour {
			rise := roundedQuotient((x.Snow-list[i-1].Snow)*(hour-list[i-1].Hour), x.Hour-list[i-1].Hour)
			return rise.Add(rise, big.NewInt(list[i-1].Snow)).Int64(), true
		}
	}
	return 0, false
}

func TestSnowAt(t *testing.T) {
	for _, list := range goodStations() {
		for _, hour := range append(hoursAround(list), 2, 3, 12, 13, 14, 16, 17, 18, 19, 20, 1001, 1999, 2001, 25000, 75000) {
			want, isThere := snowAsTold(list, hour)
			wanted := int64(impl.OK)
			if !isThere {
				wanted = impl.ErrNotFound
			}
			got, code := impl.SnowAt(list, hour)
			checkCoded(t, "SnowAt", got, code, want, wanted)
		}
	}
}

func TestKnownSnow(t *testing.T) {
	wide := []impl.Observed{{Hour: 0, Snow: 0}, {Hour: 100000, Snow: 2000}}
	for _, c := range []struct {
		list         []impl.Observed
		hour         int64
		want, wanted int64
	}{
		{[]impl.Observed{{Hour: 0, Snow: 10}, {Hour: 2, Snow: 30}}, 1, 20, impl.OK},
		{[]impl.Observed{{Hour: 0, Snow: 10}, {Hour: 2, Snow: 11}}, 1, 11, impl.OK}, {[]impl.Observed{{Hour: 0, Snow: 11}, {Hour: 2, Snow: 10}}, 1, 10, impl.OK},
		{[]impl.Observed{{Hour: 5, Snow: 10}, {Hour: 8, Snow: 20}}, 6, 13, impl.OK}, {[]impl.Observed{{Hour: 5, Snow: 10}, {Hour: 8, Snow: 20}}, 7, 17, impl.OK},
		{[]impl.Observed{{Hour: 5, Snow: 10}, {Hour: 8, Snow: 20}}, 5, 10, impl.OK}, {[]impl.Observed{{Hour: 5, Snow: 10}, {Hour: 8, Snow: 20}}, 8, 20, impl.OK},
		{[]impl.Observed{{Hour: 5, Snow: 10}, {Hour: 8, Snow: 20}}, 4, 0, impl.ErrNotFound}, {[]impl.Observed{{Hour: 5, Snow: 10}, {Hour: 8, Snow: 20}}, 9, 0, impl.ErrNotFound},
		{wide, 0, 0, impl.OK}, {wide, 24, 0, impl.OK}, {wide, 25, 1, impl.OK}, {wide, 50000, 1000, impl.OK}, {wide, 99975, 2000, impl.OK}, {wide, 99974, 1999, impl.OK}, {wide, 100000, 2000, impl.OK},
		{nil, 0, 0, impl.ErrNotFound}, {nil, 100000, 0, impl.ErrNotFound}, {[]impl.Observed{goodObserved()}, 70, 120, impl.OK}, {[]impl.Observed{goodObserved()}, 69, 0, impl.ErrNotFound}, {[]impl.Observed{goodObserved()}, 71, 0, impl.ErrNotFound},
		// Observations elsewhere do not bend the line.
		{mixedStation(), 5, 102, impl.OK}, {mixedStation(), 6, 98, impl.OK}, {mixedStation(), 12, 126, impl.OK}, {mixedStation(), 20, 25, impl.OK},
	} {
		got, code := impl.SnowAt(c.list, c.hour)
		checkCoded(t, "SnowAt", got, code, c.want, c.wanted)
	}
}

// newSnowAsTold adds up the increases among the observations of some hours.
func newSnowAsTold(list []impl.Observed, from, until int64) int64 {
	inside := slices.DeleteFunc(slices.Clone(list), func(x impl.Observed) bool { return x.Hour < from || x.Hour > until })
	sum := int64(0)
	for i, x := range inside {
		if i > 0 && x.Snow > inside[i-1].Snow {
			sum += x.Snow - inside[i-1].Snow
		}
	}
	return sum
}

func missingAsTold(list []impl.Observed, from, until int64) []int64 {
	hours := []int64{}
	for hour := from; hour < until; hour++ {
		if !hasHour(list, hour) {
			hours = append(hours, hour)
		}
	}
	return hours
}

// checkSpan compares NewSnow and MissingHours with what chapter 4 tells for valid observations.
func checkSpan(t *testing.T, list []impl.Observed, from, until int64) {
	t.Helper()
	snow, code := impl.NewSnow(list, from, until)
	missing, other := impl.MissingHours(list, from, until)
	if from < 0 || until > 100000 || until < from {
		checkCoded(t, "NewSnow", snow, code, 0, impl.ErrRange)
		checkNumbers(t, "MissingHours", missing, other, nil, impl.ErrRange)
		return
	}
	checkCoded(t, "NewSnow", snow, code, newSnowAsTold(list, from, until), impl.OK)
	hours, wanted := missingAsTold(list, from, until), int64(impl.OK)
	if len(hours) > 64 {
		hours, wanted = nil, impl.ErrFull
	}
	checkNumbers(t, "MissingHours", missing, other, hours, wanted)
}

func TestSpansOfStations(t *testing.T) {
	for _, list := range goodStations() {
		for _, from := range []int64{-1, 0, 1, 2, 3, 4, 5, 7, 8, 9, 12, 15, 21, 22, 23, 69, 70, 71, 99936, 99952, 99953, 99990, 99999, 100000, 100001} {
			for hours := int64(-2); hours <= 70; hours++ {
				checkSpan(t, list, from, from+hours)
			}
		}
		checkSpan(t, list, 0, 100000)
		checkSpan(t, list, 0, 100001)
		checkSpan(t, list, -1, 100000)
		checkSpan(t, list, 100000, 0)
	}
}

func TestSpansOfOtherHours(t *testing.T) {
	for _, list := range goodStations() {
		for _, hour := range otherHours() {
			for _, c := range [][2]int64{{hour, hour}, {hour, 5}, {5, hour}, {0, hour}, {hour, 100000}} {
				snow, code := impl.NewSnow(list, c[0], c[1])
				checkCoded(t, "NewSnow", snow, code, 0, impl.ErrRange)
				missing, code := impl.MissingHours(list, c[0], c[1])
				checkNumbers(t, "MissingHours", missing, code, nil, impl.ErrRange)
			}
			// This comes before there is found to be no snow.
			snow, code := impl.SnowAt(list, hour)
			checkCoded(t, "SnowAt", snow, code, 0, impl.ErrRange)
		}
	}
}

func TestKnownNewSnow(t *testing.T) {
	for _, c := range [][3]int64{
		{3, 4, 5}, {3, 3, 0}, {4, 7, 0}, {3, 7, 5}, {7, 8, 0}, {8, 9, 305}, {8, 8, 0}, {9, 10, 0}, {10, 15, 41}, {10, 14, 0}, {11, 15, 0}, {3, 15, 351}, {0, 100000, 2351}, {5, 9, 305}, {2, 6, 5}, {21, 22, 2000}, {22, 100000, 0}, {16, 20, 0},
	} {
		got, code := impl.NewSnow(mixedStation(), c[0], c[1])
		checkCoded(t, "NewSnow", got, code, c[2], impl.OK)
	}
	saw := make([]impl.Observed, impl.MaxObserved)
	for i := range saw {
		saw[i] = impl.Observed{Hour: int64(i), Snow: int64(i) % 2 * 2000}
	}
	got, code := impl.NewSnow(saw, 0, 47)
	checkCoded(t, "NewSnow", got, code, 24*2000, impl.OK)
}

func TestKnownMissingHours(t *testing.T) {
	for _, c := range []struct {
		from, until int64
		want        []int64
	}{
		{0, 4, []int64{0, 1, 2}}, {3, 5, nil}, {3, 6, []int64{5}}, {4, 8, []int64{5, 6}}, {5, 5, nil}, {3, 3, nil}, {5, 6, []int64{5}}, {22, 23, nil}, {22, 25, []int64{23, 24}}, {23, 23, nil}, {99998, 100000, []int64{99998, 99999}}, {100000, 100000, nil},
	} {
		got, code := impl.MissingHours(mixedStation(), c.from, c.until)
		checkNumbers(t, "MissingHours", got, code, c.want, impl.OK)
	}
}

func TestMissingHoursAreNotTooMany(t *testing.T) {
	full := stationOf(impl.MaxObserved, 10, 1)
	for _, c := range []struct {
		list        []impl.Observed
		from, until int64
		count       int
		wanted      int64
	}{
		{nil, 0, 64, 64, impl.OK}, {nil, 0, 65, 0, impl.ErrFull}, {nil, 99936, 100000, 64, impl.OK}, {nil, 99935, 100000, 0, impl.ErrFull}, {nil, 0, 100000, 0, impl.ErrFull},
		{full, 0, 112, 64, impl.OK}, {full, 0, 113, 0, impl.ErrFull}, {full, 10, 58, 0, impl.OK}, {full, 10, 59, 1, impl.OK}, {full, 9, 58, 1, impl.OK}, {full, 0, 100000, 0, impl.ErrFull},
		// An observation behind 64 missing hours leaves them 64.
		{[]impl.Observed{{Hour: 64}}, 0, 65, 64, impl.OK}, {[]impl.Observed{{Hour: 64}}, 0, 66, 0, impl.ErrFull}, {[]impl.Observed{{Hour: 0}}, 0, 65, 64, impl.OK},
	} {
		got, code := impl.MissingHours(c.list, c.from, c.until)
		if len(got) != c.count || code != c.wanted {
			t.Errorf("MissingHours from %d to before %d = %v, %d", c.from, c.until, got, code)
		}
	}
}

func TestDegreesMean(t *testing.T) {
	for _, list := range goodStations() {
		if len(list) == 0 {
			got, code := impl.DegreesMean(list)
			checkCoded(t, "DegreesMean of nothing", got, code, 0, impl.ErrNotFound)
			continue
		}
		sum := int64(0)
		for _, x := range list {
			sum += x.Degrees
		}
		got, code := impl.DegreesMean(list)
		checkCoded(t, "DegreesMean", got, code, roundedQuotient(sum, int64(len(list))).Int64(), impl.OK)
	}
}

func TestKnownDegreesMeans(t *testing.T) {
	for _, c := range []struct {
		degrees []int64
		want    int64
	}{
		{[]int64{0}, 0}, {[]int64{-5000}, -5000}, {[]int64{5000}, 5000}, {[]int64{0, -500}, -250}, {[]int64{1, 2}, 2}, {[]int64{-1, -2}, -2}, {[]int64{0, 0, 1}, 0}, {[]int64{0, 0, -1}, 0}, {[]int64{0, 1, 1}, 1}, {[]int64{0, -1, -1}, -1}, {[]int64{-5000, 5000}, 0},
		{repeated(5000, 48), 5000}, {repeated(-5000, 48), -5000}, {append(repeated(-5000, 47), -4976), -5000}, {append(repeated(-5000, 47), -4975), -4999}, {append(repeated(0, 47), 24), 1}, {append(repeated(0, 47), 23), 0},
	} {
		list := []impl.Observed{}
		for hour, degrees := range c.degrees {
			list = append(list, impl.Observed{Hour: int64(hour), Snow: 9, Degrees: degrees, Wind: 70})
		}
		got, code := impl.DegreesMean(list)
		checkCoded(t, "DegreesMean", got, code, c.want, impl.OK)
	}
}

func TestWindHours(t *testing.T) {
	for _, list := range goodStations() {
		for _, least := range []int64{0, 1, 7, 8, 499, 500, 501, 799, 800, 801, 999, 1000, 1001, 1002, 9999, 10000} {
			want := int64(0)
			for wind := least; wind <= 10000; wind++ {
				for _, x := range list {
					if x.Wind == wind {
						want++
					}
				}
			}
			got, code := impl.WindHours(list, least)
			checkCoded(t, "WindHours", got, code, want, impl.OK)
		}
		for _, least := range append(otherNumbers(), -1, 10001) {
			got, code := impl.WindHours(list, least)
			checkCoded(t, "WindHours", got, code, 0, impl.ErrRange)
		}
	}
	for least, want := range map[int64]int64{0: 9, 1: 8, 999: 5, 1000: 4, 1001: 2, 1002: 1, 10000: 1} {
		got, code := impl.WindHours(mixedStation(), least)
		checkCoded(t, "WindHours", got, code, want, impl.OK)
	}
}

// checkCompared compares CompareStations, both ways, with the numbers wanted.
func checkCompared(t *testing.T, a, b []impl.Observed, hours, sum, wanted int64) {
	t.Helper()
	for range 2 {
		got, also, code := impl.CompareStations(a, b)
		checkCoded(t, "hours of CompareStations", got, code, hours, wanted)
		checkCoded(t, "sum of CompareStations", also, code, sum, wanted)
		a, b = b, a
	}
}

func TestCompareStations(t *testing.T) {
	for _, a := range goodStations() {
		for _, b := range goodStations() {
			hours, sum := int64(0), int64(0)
			for _, x := range a {
				for _, y := range b {
					if x.Hour == y.Hour {
						hours++
						sum += max(x.Snow, y.Snow) - min(x.Snow, y.Snow)
					}
				}
			}
			checkCompared(t, a, b, hours, sum, impl.OK)
		}
		checkCompared(t, a, a, int64(len(a)), 0, impl.OK)
	}
}

func TestKnownComparisons(t *testing.T) {
	list := mixedStation()
	checkCompared(t, list, nil, 0, 0, impl.OK)
	checkCompared(t, list, []impl.Observed{{Hour: 5, Snow: 500}, {Hour: 6, Snow: 500}, {Hour: 23, Snow: 500}}, 0, 0, impl.OK)
	checkCompared(t, list, []impl.Observed{{Hour: 0}, {Hour: 3, Snow: 97}, {Hour: 5, Snow: 7}, {Hour: 7, Snow: 101}, {Hour: 22, Snow: 2000}}, 3, 3+6, impl.OK)
	high, low := stationOf(impl.MaxObserved, 0, 1), stationOf(impl.MaxObserved, 0, 1)
	for i := range high {
		high[i].Snow, low[i].Snow = 2000, 0
		// All but the snow and the hour does not count.
		high[i].Degrees, high[i].Wind = 4000, 9000
	}
	checkCompared(t, high, low, 48, 96000, impl.OK)
}

func TestStationsInvalidComesFirst(t *testing.T) {
	for _, list := range badStations() {
		for _, n := range append(otherNumbers(), -1, 0, 1, 70, 100000, 100001) {
			got, code := impl.SnowAt(list, n)
			checkCoded(t, "SnowAt", got, code, 0, impl.ErrInvalid)
			got, code = impl.WindHours(list, n)
			checkCoded(t, "WindHours", got, code, 0, impl.ErrInvalid)
			for _, until := range []int64{-1, 0, 100000, n} {
				got, code = impl.NewSnow(list, n, until)
				checkCoded(t, "NewSnow", got, code, 0, impl.ErrInvalid)
				hours, code := impl.MissingHours(list, n, until)
				checkNumbers(t, "MissingHours", hours, code, nil, impl.ErrInvalid)
			}
		}
		got, code := impl.DegreesMean(list)
		checkCoded(t, "DegreesMean", got, code, 0, impl.ErrInvalid)
		for _, other := range [][]impl.Observed{nil, mixedStation(), list, badStations()[0]} {
			checkCompared(t, list, other, 0, 0, impl.ErrInvalid)
		}
	}
}
