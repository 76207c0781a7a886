package tests

import (
	"slices"
	"strconv"
	"strings"
	"testing"

	"loop.example/g01013/impl"
)

func observedFields() []numberField[impl.Observed] {
	return []numberField[impl.Observed]{
		{"Hour", func(x *impl.Observed) *int64 { return &x.Hour }, 0, 100000},
		{"Snow", func(x *impl.Observed) *int64 { return &x.Snow }, 0, 2000},
		{"Degrees", func(x *impl.Observed) *int64 { return &x.Degrees }, -5000, 5000},
		{"Wind", func(x *impl.Observed) *int64 { return &x.Wind }, 0, 10000},
	}
}

func goodObserved() impl.Observed {
	return impl.Observed{Hour: 70, Snow: 120, Degrees: -350, Wind: 800}
}

func leastObserved() impl.Observed { return impl.Observed{Hour: 0, Snow: 0, Degrees: -5000, Wind: 0} }

func greatestObserved() impl.Observed {
	return impl.Observed{Hour: 100000, Snow: 2000, Degrees: 5000, Wind: 10000}
}

// badObserved holds observations in which one number is not as it must be.
func badObserved() []impl.Observed {
	list := []impl.Observed{}
	for _, field := range observedFields() {
		for _, n := range append(otherNumbers(), field.least-1, field.greatest+1) {
			list = append(list, withField(goodObserved(), field, n))
		}
	}
	return list
}

// mixedStation has observations with and without hours between them, and snow that rises, stays and falls.
func mixedStation() []impl.Observed {
	return []impl.Observed{
		{Hour: 3, Snow: 100, Degrees: -500, Wind: 0},
		{Hour: 4, Snow: 105, Degrees: -480, Wind: 999},
		{Hour: 7, Snow: 95, Degrees: -200, Wind: 1000},
		{Hour: 8, Snow: 95, Degrees: 0, Wind: 1001},
		{Hour: 9, Snow: 400, Degrees: 3000, Wind: 10000},
		{Hour: 10, Snow: 110, Degrees: 10, Wind: 500},
		{Hour: 15, Snow: 151, Degrees: -11, Wind: 1000},
		{Hour: 21, Snow: 0, Degrees: -5000, Wind: 20},
		{Hour: 22, Snow: 2000, Degrees: 5000, Wind: 7},
	}
}

// stationOf returns count observations, the first one at an hour, and with so many hours from one to the next one.
func stationOf(count int, first, step int64) []impl.Observed {
	list := make([]impl.Observed, 0, count)
	for i := range int64(count) {
		list = append(list, impl.Observed{Hour: first + step*i, Snow: i * 37 % 101, Degrees: i*913%2001 - 1000, Wind: i * 613 % 3000})
	}
	return list
}

// goodStations holds valid observations, from none to as many as may be.
func goodStations() [][]impl.Observed {
	mixed := mixedStation()
	return [][]impl.Observed{
		nil, {}, {goodObserved()}, {leastObserved()}, {greatestObserved()}, {{}}, {leastObserved(), greatestObserved()}, mixed, mixed[:2], mixed[1:3],
		stationOf(impl.MaxObserved-1, 0, 3), stationOf(impl.MaxObserved, 0, 1), stationOf(impl.MaxObserved, 5, 2), stationOf(impl.MaxObserved, 100000-47, 1), stationOf(impl.MaxObserved, 1000, 2000),
	}
}

// badStations holds observations that are too many, not as stated, or not in the order of their hours.
func badStations() [][]impl.Observed {
	lists := [][]impl.Observed{
		stationOf(impl.MaxObserved+1, 0, 1), stationOf(5000, 0, 1), make([]impl.Observed, impl.MaxObserved+1),
		{{Hour: 5}, {Hour: 5}}, {{Hour: 5}, {Hour: 4}}, {{Hour: 0}, {Hour: 0}}, {{Hour: 1}, {Hour: 2}, {Hour: 2}}, {{Hour: 1}, {Hour: 3}, {Hour: 2}}, {{Hour: 2}, {Hour: 1}, {Hour: 3}}, {{Hour: 2}, {Hour: 2}, {Hour: 3}},
		{{Hour: 1}, {Hour: 9}, {Hour: 2}, {Hour: 10}}, {{Hour: 100000}, {Hour: 0}}, {{Hour: 100000}, {Hour: 100000}}, stationOf(impl.MaxObserved, 100000, -1), stationOf(impl.MaxObserved, 7, 0),
	}
	last := stationOf(impl.MaxObserved, 0, 1)
	last[impl.MaxObserved-1].Hour = impl.MaxObserved - 2
	first := stationOf(impl.MaxObserved, 0, 1)
	first[0].Hour = 1
	lists = append(lists, last, first)
	for _, x := range badObserved() {
		lists = append(lists, []impl.Observed{x})
		for place := range 3 {
			// Each other number is as it must be, and so is the order where the wrong number is no Hour.
			list, wrong := []impl.Observed{{Hour: 69}, {Hour: 70}, {Hour: 71}}, x
			wrong.Hour += int64(place - 1)
			list[place] = wrong
			lists = append(lists, list)
		}
	}
	return lists
}

func TestConstantsOfStations(t *testing.T) {
	if impl.MaxObserved != 48 || impl.MaxSnow != 2000 {
		t.Error(impl.MaxObserved, impl.MaxSnow)
	}
}

func TestValidObserved(t *testing.T) {
	for _, list := range goodStations() {
		if !impl.ValidObserved(list) {
			t.Errorf("ValidObserved(%v) = false", list)
		}
	}
	for _, list := range badStations() {
		if impl.ValidObserved(list) {
			t.Errorf("ValidObserved of %d observations, the first one %v, = true", len(list), list[0])
		}
	}
}

func TestValidObservedLimits(t *testing.T) {
	for _, x := range []impl.Observed{goodObserved(), leastObserved(), greatestObserved(), {}} {
		for _, field := range observedFields() {
			for _, n := range append(otherNumbers(), field.least-1, field.least, field.least+1, field.greatest-1, field.greatest, field.greatest+1, -1, 0, 1) {
				want := n >= field.least && n <= field.greatest
				if got := impl.ValidObserved([]impl.Observed{withField(x, field, n)}); got != want {
					t.Errorf("ValidObserved with %s %d = %v", field.name, n, got)
				}
			}
		}
	}
}

func TestValidObservedOfTwoHours(t *testing.T) {
	hours := []int64{0, 1, 2, 50, 99999, 100000}
	for _, first := range hours {
		for _, second := range hours {
			if got := impl.ValidObserved([]impl.Observed{{Hour: first}, {Hour: second}}); got != (first < second) {
				t.Errorf("ValidObserved of the hours %d and %d = %v", first, second, got)
			}
		}
	}
}

// checkNumbers compares numbers and a code with those wanted.
func checkNumbers(t *testing.T, what string, got []int64, code int64, want []int64, wanted int64) {
	t.Helper()
	if !slices.Equal(got, want) || code != wanted {
		t.Errorf("%s = %v, %d, want %v, %d", what, got, code, want, wanted)
	}
}

// checkStation compares observations and a code with those wanted.
func checkStation(t *testing.T, what string, got []impl.Observed, code int64, want []impl.Observed, wanted int64) {
	t.Helper()
	if !slices.Equal(got, want) || code != wanted {
		t.Errorf("%s = %v, %d, want %v, %d", what, got, code, want, wanted)
	}
}

func hasHour(list []impl.Observed, hour int64) bool {
	return slices.ContainsFunc(list, func(x impl.Observed) bool { return x.Hour == hour })
}

// hoursAround holds the hours of observations, those beside them and the first and the last one that there are.
func hoursAround(list []impl.Observed) []int64 {
	hours := []int64{0, 1, 50000, 99999, 100000}
	for _, x := range list {
		for hour := x.Hour - 1; hour <= x.Hour+1; hour++ {
			if hour >= 0 && hour <= 100000 {
				hours = append(hours, hour)
			}
		}
	}
	return hours
}

// checkAdded compares AddObserved with what chapter 4 tells for valid observations and one that is as stated.
func checkAdded(t *testing.T, list []impl.Observed, x impl.Observed) {
	t.Helper()
	got, code := impl.AddObserved(list, x)
	switch {
	case hasHour(list, x.Hour):
		checkStation(t, "AddObserved of an hour that is there", got, code, nil, impl.ErrExists)
	case len(list) == impl.MaxObserved:
		checkStation(t, "AddObserved to a full station", got, code, nil, impl.ErrFull)
	default:
		place := 0
		for place < len(list) && list[place].Hour < x.Hour {
			place++
		}
		checkStation(t, "AddObserved", got, code, slices.Concat(list[:place], []impl.Observed{x}, list[place:]), impl.OK)
		snow, code := impl.SnowAt(got, x.Hour)
		checkCoded(t, "SnowAt of what was added", snow, code, x.Snow, impl.OK)
		missing, code := impl.MissingHours(got, x.Hour, min(x.Hour+1, 100000))
		checkNumbers(t, "MissingHours of what was added", missing, code, nil, impl.OK)
		if !impl.ValidObserved(got) {
			t.Errorf("%v with %v is not valid", list, x)
		}
	}
}

func TestAddObserved(t *testing.T) {
	for _, list := range goodStations() {
		for _, x := range []impl.Observed{goodObserved(), leastObserved(), greatestObserved(), {}} {
			for _, x.Hour = range hoursAround(list) {
				checkAdded(t, list, x)
			}
		}
	}
}

func TestAddObservedInEachOrder(t *testing.T) {
	want := []impl.Observed{{Hour: 2, Snow: 5}, {Hour: 3, Snow: 9}, {Hour: 7, Snow: 1}, {Hour: 8, Degrees: -9}, {Hour: 100000, Wind: 3}}
	var add func(list, rest []impl.Observed)
	add = func(list, rest []impl.Observed) {
		if len(rest) == 0 {
			checkStation(t, "AddObserved of all", list, impl.OK, want, impl.OK)
		}
		for i, x := range rest {
			more, code := impl.AddObserved(list, x)
			if code != impl.OK {
				t.Fatalf("AddObserved(%v, %v): %d", list, x, code)
			}
			add(more, slices.Concat(rest[:i], rest[i+1:]))
		}
	}
	add(nil, want)
}

func TestAddObservedUntilFull(t *testing.T) {
	list := []impl.Observed{}
	for i := range int64(impl.MaxObserved) {
		// 5 and 48 have no common divisor, so that each hour comes once.
		x := impl.Observed{Hour: i * 5 % impl.MaxObserved, Snow: i}
		checkAdded(t, list, x)
		list, _ = impl.AddObserved(list, x)
	}
	if len(list) != impl.MaxObserved {
		t.Fatalf("there are %d observations", len(list))
	}
	got, code := impl.AddObserved(list, impl.Observed{Hour: impl.MaxObserved})
	checkStation(t, "AddObserved to a full station", got, code, nil, impl.ErrFull)
}

func TestOrderOfErrorsOfAddObserved(t *testing.T) {
	for _, list := range badStations() {
		for _, x := range append(badObserved(), goodObserved(), leastObserved(), list[0]) {
			got, code := impl.AddObserved(list, x)
			checkStation(t, "AddObserved to a bad station", got, code, nil, impl.ErrInvalid)
		}
	}
	full := stationOf(impl.MaxObserved, 70, 1)
	for _, list := range append(goodStations(), full) {
		// The Hour of most of them is one of the last list.
		for _, x := range badObserved() {
			got, code := impl.AddObserved(list, x)
			checkStation(t, "AddObserved of a bad observation", got, code, nil, impl.ErrRange)
		}
	}
	got, code := impl.AddObserved(full, goodObserved())
	checkStation(t, "AddObserved of an hour of a full station", got, code, nil, impl.ErrExists)
	got, code = impl.AddObserved(full, full[impl.MaxObserved-1])
	checkStation(t, "AddObserved of what a full station has", got, code, nil, impl.ErrExists)
	got, code = impl.AddObserved(full, impl.Observed{Hour: 69})
	checkStation(t, "AddObserved of another hour to a full station", got, code, nil, impl.ErrFull)
}

// observedAsTold writes an observation, as stated or not, number by number.
func observedAsTold(x impl.Observed) string {
	numbers := []string{}
	for _, field := range observedFields() {
		numbers = append(numbers, strconv.FormatInt(*field.of(&x), 10))
	}
	return strings.Join(numbers, ",")
}

func TestObservedTextsAreReadBack(t *testing.T) {
	for _, x := range slices.Concat(goodStations()...) {
		want := observedAsTold(x)
		if got := impl.ObservedText(x); got != want {
			t.Errorf("ObservedText(%v) = %q, want %q", x, got, want)
		}
		if got, ok := impl.ReadObserved(want); got != x || !ok {
			t.Errorf("ReadObserved(%q) = %v, %v", want, got, ok)
		}
	}
	for _, x := range badObserved() {
		if got := impl.ObservedText(x); got != "" {
			t.Errorf("ObservedText(%v) = %q", x, got)
		}
		if got, ok := impl.ReadObserved(observedAsTold(x)); got != (impl.Observed{}) || ok {
			t.Errorf("ReadObserved(%q) = %v, %v", observedAsTold(x), got, ok)
		}
	}
}

func TestKnownObservedTexts(t *testing.T) {
	for text, x := range map[string]impl.Observed{
		"0,0,0,0": {}, "2,30,-500,2000": {Hour: 2, Snow: 30, Degrees: -500, Wind: 2000}, "1,2,3,4": {Hour: 1, Snow: 2, Degrees: 3, Wind: 4},
		"0,0,-5000,0": leastObserved(), "100000,2000,5000,10000": greatestObserved(),
	} {
		if got := impl.ObservedText(x); got != text {
			t.Errorf("ObservedText(%v) = %q, want %q", x, got, text)
		}
		if got, ok := impl.ReadObserved(text); got != x || !ok {
			t.Errorf("ReadObserved(%q) = %v, %v", text, got, ok)
		}
	}
}

func TestReadObservedOfOtherTexts(t *testing.T) {
	for _, s := range []string{
		"", "-", "0", ",", ",,,", "0,0,0", "0,0,0,0,0", "0,0,0,", ",0,0,0", "0,,0,0", "0,0,0,0,", ",0,0,0,0", "-,0,0,0", "0,0,-,0", "0,0,0,-",
		" 0,0,0,0", "0,0,0,0 ", "0, 0,0,0", "0 ,0,0,0", "0,0,0,0\n", "0,0,0,0\x00", "\xff0,0,0,0", "0;0;0;0", "0 0 0 0", "0,0,0.0,0", "\uff10,0,0,0",
		"00,0,0,0", "01,0,0,0", "0,030,0,0", "0,0,-0500,0", "0,0,0,00", "+1,0,0,0", "0,+1,0,0", "0,0,+1,0", "0,0,0,+1", "-0,0,0,0", "0,-0,0,0", "0,0,-0,0", "0,0,0,-0", "0,0,--1,0", "0,0,\u22121,0",
		"100001,0,0,0", "-1,0,0,0", "0,2001,0,0", "0,-1,0,0", "0,0,5001,0", "0,0,-5001,0", "0,0,0,10001", "0,0,0,-1", "0x1,0,0,0", "1e3,0,0,0", "1_0,0,0,0", "a,0,0,0",
		"18446744073709551616,0,0,0", "0,0,0,18446744073709551617", "0,0,0,1000000000001", strings.Repeat("0,", 64) + "0", strings.Repeat("0,", 63) + "0", strings.Repeat("0,", 100000) + "0", strings.Repeat(",", 100000),
	} {
		if x, ok := impl.ReadObserved(s); x != (impl.Observed{}) || ok {
			t.Errorf("ReadObserved(%.60q) = %v, %v", s, x, ok)
		}
	}
}

// isObservedText says by itself whether a text is that of an observation.
func isObservedText(s string) bool {
	numbers := strings.Split(s, ",")
	if len(numbers) != 4 {
		return false
	}
	for i, field := range observedFields() {
		n, err := strconv.ParseInt(numbers[i], 10, 64)
		if err != nil || strconv.FormatInt(n, 10) != numbers[i] || n < field.least || n > field.greatest {
			return false
		}
	}
	return true
}

func TestReadObservedOfNearTexts(t *testing.T) {
	for _, s := range []string{"0,0,0,0", "2,30,-500,2000", "100000,2000,5000,10000", "99999,200,-5000,1000", "-1,0,0,0"} {
		nearTexts(s, func(s string) {
			x, ok := impl.ReadObserved(s)
			if ok != isObservedText(s) || ok && observedAsTold(x) != s || !ok && x != (impl.Observed{}) {
				t.Errorf("ReadObserved(%q) = %v, %v", s, x, ok)
			}
		})
	}
}
