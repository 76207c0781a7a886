package tests

import (
	"math/rand/v2"
	"regexp"
	"slices"
	"strconv"
	"strings"
	"testing"

	"loop.example/g01013/impl"
)

func fieldOf(rows, columns int64, masses ...int64) impl.Field {
	return impl.Field{Rows: rows, Columns: columns, Masses: masses}
}

// evenField has the same mass in all cells.
func evenField(rows, columns, mass int64) impl.Field {
	return fieldOf(rows, columns, repeated(mass, int(rows*columns))...)
}

// fieldFrom reads a field that must be valid.
func fieldFrom(t *testing.T, text string) impl.Field {
	t.Helper()
	f, ok := impl.ReadField(text)
	if !ok {
		t.Fatalf("no field: %q", text)
	}
	return f
}

// mixedField returns a field whose masses are often one of their limits.
func mixedField(mix *rand.Rand, rows, columns int64) impl.Field {
	f := evenField(rows, columns, 0)
	// Fields with less snow can drift for long before a cell has too much.
	most := []int64{9, 3000, impl.MaxDrift / 20, impl.MaxDrift / 2, impl.MaxDrift}[mix.IntN(5)]
	for cell := range f.Masses {
		f.Masses[cell] = []int64{0, most, mix.Int64N(most + 1), mix.Int64N(most + 1), mix.Int64N(1 + most/5)}[mix.IntN(5)]
	}
	return f
}

// mixedFields holds fields that are always the same, so many of each number of rows and columns.
func mixedFields(count int) []impl.Field {
	mix := rand.New(rand.NewPCG(6, 2026))
	fields := []impl.Field{}
	for rows := int64(1); rows <= impl.MaxFieldSide; rows++ {
		for columns := int64(1); columns <= impl.MaxFieldSide; columns++ {
			for range count {
				fields = append(fields, mixedField(mix, rows, columns))
			}
		}
	}
	return fields
}

// goodFields holds valid fields, from one cell to as many as may be.
func goodFields() []impl.Field {
	return append([]impl.Field{
		fieldOf(1, 1, 0), fieldOf(1, 1, 7), fieldOf(1, 1, impl.MaxDrift), fieldOf(2, 1, 1000, 0), fieldOf(1, 2, 1000, 0), fieldOf(2, 2, 1, 2, 3, 4), fieldOf(2, 3, 1, 20, 300, 4000, 50000, 600000), fieldOf(3, 2, 1, 20, 300, 4000, 50000, 600000),
		evenField(8, 8, 0), evenField(8, 8, 1), evenField(8, 8, impl.MaxDrift), evenField(1, 8, impl.MaxDrift), evenField(8, 1, impl.MaxDrift), evenField(2, 2, impl.MaxDrift), evenField(8, 8, impl.MaxDrift-1),
	}, mixedFields(2)...)
}

// badFields holds fields whose sides, number of masses or masses are not as they must be.
func badFields() []impl.Field {
	fields := []impl.Field{
		{}, {Rows: 1, Columns: 1}, fieldOf(1, 1, 0, 0), fieldOf(2, 3, 1, 2, 3, 4, 5), fieldOf(2, 3, 1, 2, 3, 4, 5, 6, 7), fieldOf(8, 8, repeated(0, 63)...), fieldOf(8, 8, repeated(0, 65)...), fieldOf(1, 1, repeated(0, 5000)...),
		// The number of masses is that of the cells, or what the product of the sides overflows to.
		evenField(9, 1, 0), evenField(1, 9, 0), evenField(9, 9, 0), evenField(16, 4, 0), evenField(4, 16, 0), fieldOf(-1, -1, 0), fieldOf(-2, -3, repeated(0, 6)...), fieldOf(0, 0), fieldOf(0, 5), fieldOf(5, 0), fieldOf(64, 1, repeated(0, 64)...), fieldOf(1, 64, repeated(0, 64)...),
		fieldOf(1<<32, 1<<32), fieldOf(1<<62, 4), fieldOf(4, 1<<62), fieldOf(1<<61+1, 8, repeated(0, 8)...), fieldOf(8, 1<<61+1, repeated(0, 8)...), fieldOf(-1<<61+1, 8, repeated(0, 8)...),
	}
	for _, side := range append(otherNumbers(), -1, 0, 9) {
		fields = append(fields, fieldOf(side, 1, 0), fieldOf(1, side, 0), fieldOf(side, side, 0), fieldOf(side, 1), fieldOf(1, side))
	}
	for _, mass := range append(otherNumbers(), -1, impl.MaxDrift+1) {
		fields = append(fields, fieldOf(1, 1, mass), fieldOf(1, 3, mass, 0, 0), fieldOf(3, 1, 0, mass, 0), fieldOf(2, 2, 5, 5, 5, mass), fieldOf(8, 8, append(repeated(0, 63), mass)...), fieldOf(8, 8, repeated(mass, 64)...))
	}
	return fields
}

// checkField compares a field and a code with those wanted.
func checkField(t *testing.T, what string, got impl.Field, code int64, want impl.Field, wanted int64) {
	t.Helper()
	if got.Rows != want.Rows || got.Columns != want.Columns || !slices.Equal(got.Masses, want.Masses) || code != wanted {
		t.Errorf("%s = %v, %d, want %v, %d", what, got, code, want, wanted)
	}
}

func TestConstantsOfDrift(t *testing.T) {
	if impl.MaxFieldSide != 8 || impl.MaxDrift != 1000000 || impl.MaxGusts != 24 {
		t.Error(impl.MaxFieldSide, impl.MaxDrift, impl.MaxGusts)
	}
}

func TestValidField(t *testing.T) {
	for _, f := range goodFields() {
		if !impl.ValidField(f) {
			t.Errorf("ValidField(%v) = false", f)
		}
	}
	for _, f := range badFields() {
		if impl.ValidField(f) {
			t.Errorf("ValidField(%v) = true", f)
		}
	}
}

func TestValidFieldOfEachSize(t *testing.T) {
	for rows := int64(-2); rows <= 10; rows++ {
		for columns := int64(-2); columns <= 10; columns++ {
			for count := range int64(103) {
				want := rows >= 1 && rows <= 8 && columns >= 1 && columns <= 8 && count == rows*columns
				if got := impl.ValidField(fieldOf(rows, columns, repeated(1, int(count))...)); got != want {
					t.Errorf("ValidField of %d rows, %d columns and %d masses = %v", rows, columns, count, got)
				}
			}
		}
	}
}

func TestValidFieldOfEachMass(t *testing.T) {
	for cell := range 6 {
		for _, mass := range append(otherNumbers(), -2, -1, 0, 1, impl.MaxDrift-1, impl.MaxDrift, impl.MaxDrift+1) {
			f := evenField(2, 3, 10)
			f.Masses[cell] = mass
			if got := impl.ValidField(f); got != (mass >= 0 && mass <= 1000000) {
				t.Errorf("ValidField(%v) = %v", f, got)
			}
		}
	}
}

func TestSameField(t *testing.T) {
	fields := append(append(goodFields(), badFields()...), fieldOf(3, 2, 1, 2, 3, 4, 5, 6), fieldOf(2, 3, 1, 2, 3, 4, 5, 6), fieldOf(2, 3, 6, 5, 4, 3, 2, 1), fieldOf(6, 1, 1, 2, 3, 4, 5, 6), fieldOf(2, 3, 1, 2, 3, 4, 5, 7), fieldOf(2, 3, 0, 2, 3, 4, 5, 6))
	for _, a := range fields {
		for _, b := range fields {
			want := a.Rows == b.Rows && a.Columns == b.Columns && slices.Equal(a.Masses, b.Masses)
			if got := impl.SameField(a, b); got != want {
				t.Errorf("SameField(%v, %v) = %v", a, b, got)
			}
		}
		if b := fieldOf(a.Rows, a.Columns, slices.Clone(a.Masses)...); !impl.SameField(a, b) {
			t.Errorf("SameField(%v, %v) = false", a, b)
		}
		for cell := range a.Masses {
			b := fieldOf(a.Rows, a.Columns, slices.Clone(a.Masses)...)
			b.Masses[cell]++
			if impl.SameField(a, b) || impl.SameField(b, a) {
				t.Errorf("SameField(%v, %v) = true", a, b)
			}
		}
	}
	// A nil slice and an empty one are equivalent.
	if !impl.SameField(impl.Field{Rows: 2}, fieldOf(2, 0, []int64{}...)) || !impl.SameField(impl.Field{Masses: []int64{}}, impl.Field{}) {
		t.Error("fields without masses differ")
	}
}

func TestFieldMass(t *testing.T) {
	for _, f := range goodFields() {
		want := int64(0)
		for _, mass := range f.Masses {
			want += mass
		}
		got, code := impl.FieldMass(f)
		checkCoded(t, "FieldMass", got, code, want, impl.OK)
	}
	for text, want := range map[string]int64{"1x1 0": 0, "1x1 1000000": 1000000, "2x1 1000,0": 1000, "2x2 1,20,300,4000": 4321, "1x3 1000000,1000000,999999": 2999999} {
		got, code := impl.FieldMass(fieldFrom(t, text))
		checkCoded(t, "FieldMass", got, code, want, impl.OK)
	}
	got, code := impl.FieldMass(evenField(8, 8, impl.MaxDrift))
	checkCoded(t, "FieldMass of as much as may be", got, code, 64000000, impl.OK)
	for _, f := range badFields() {
		got, code := impl.FieldMass(f)
		checkCoded(t, "FieldMass of a bad field", got, code, 0, impl.ErrInvalid)
	}
}

func checkSnowOver(t *testing.T, f impl.Field, mass int64) {
	t.Helper()
	want, wanted := fieldOf(f.Rows, f.Columns), int64(impl.OK)
	for _, old := range f.Masses {
		want.Masses = append(want.Masses, old+mass)
	}
	if slices.Max(want.Masses) > 1000000 {
		want, wanted = impl.Field{}, impl.ErrState
	}
	got, code := impl.SnowOver(f, mass)
	checkField(t, "SnowOver", got, code, want, wanted)
	if code == impl.OK {
		before, _ := impl.FieldMass(f)
		after, code := impl.FieldMass(got)
		checkCoded(t, "FieldMass after SnowOver", after, code, before+mass*f.Rows*f.Columns, impl.OK)
	}
}

func TestSnowOver(t *testing.T) {
	for _, f := range goodFields() {
		room := 1000000 - slices.Max(f.Masses)
		for _, mass := range []int64{0, 1, 5, 999, 500000, 999999, 1000000, room - 1, room, room + 1} {
			if mass >= 0 && mass <= 1000000 {
				checkSnowOver(t, f, mass)
			}
		}
	}
	for cell := range 6 {
		f := evenField(3, 2, 0)
		f.Masses[cell] = 400000
		checkSnowOver(t, f, 600000)
		checkSnowOver(t, f, 600001)
		checkSnowOver(t, f, 1000000)
	}
}

func TestSnowOverErrors(t *testing.T) {
	for _, mass := range append(otherNumbers(), -1, impl.MaxDrift+1) {
		for _, f := range []impl.Field{fieldOf(1, 1, 0), fieldOf(1, 1, 5), evenField(8, 8, 0), evenField(8, 8, impl.MaxDrift)} {
			got, code := impl.SnowOver(f, mass)
			checkField(t, "SnowOver of a bad mass", got, code, impl.Field{}, impl.ErrRange)
		}
	}
	for _, f := range badFields() {
		for _, mass := range append(otherNumbers(), -1, 0, 1, impl.MaxDrift, impl.MaxDrift+1) {
			got, code := impl.SnowOver(f, mass)
			checkField(t, "SnowOver of a bad field", got, code, impl.Field{}, impl.ErrInvalid)
		}
	}
}

// fieldAsTold writes a field, valid or not, number by number.
func fieldAsTold(f impl.Field) string {
	masses := []string{}
	for _, mass := range f.Masses {
		masses = append(masses, strconv.FormatInt(mass, 10))
	}
	if len(masses) == 0 {
		masses = append(masses, "-")
	}
	return strconv.FormatInt(f.Rows, 10) + "x" + strconv.FormatInt(f.Columns, 10) + " " + strings.Join(masses, ",")
}

func TestFieldTextsAreReadBack(t *testing.T) {
	for _, f := range goodFields() {
		want := fieldAsTold(f)
		if got := impl.FieldText(f); got != want {
			t.Errorf("FieldText(%v) = %q, want %q", f, got, want)
		}
		if got, ok := impl.ReadField(want); !ok || !impl.SameField(got, f) {
			t.Errorf("ReadField(%q) = %v, %v", want, got, ok)
		}
	}
	for _, f := range badFields() {
		if got := impl.FieldText(f); got != "" {
			t.Errorf("FieldText(%v) = %q", f, got)
		}
		if got, ok := impl.ReadField(fieldAsTold(f)); !impl.SameField(got, impl.Field{}) || ok {
			t.Errorf("ReadField(%.80q) = %v, %v", fieldAsTold(f), got, ok)
		}
	}
}

func TestKnownFieldTexts(t *testing.T) {
	for text, f := range map[string]impl.Field{
		"1x1 0": fieldOf(1, 1, 0), "2x1 1000,0": fieldOf(2, 1, 1000, 0), "1x2 1000,0": fieldOf(1, 2, 1000, 0), "2x3 1,2,3,4,5,6": fieldOf(2, 3, 1, 2, 3, 4, 5, 6), "3x2 1,2,3,4,5,6": fieldOf(3, 2, 1, 2, 3, 4, 5, 6), "1x1 1000000": fieldOf(1, 1, 1000000),
		"8x1 0,1,2,3,4,5,6,7": fieldOf(8, 1, 0, 1, 2, 3, 4, 5, 6, 7), "8x8 " + strings.Repeat("0,", 63) + "1000000": fieldOf(8, 8, append(repeated(0, 63), 1000000)...),
	} {
		if got := impl.FieldText(f); got != text {
			t.Errorf("FieldText(%v) = %q, want %q", f, got, text)
		}
		if got, ok := impl.ReadField(text); !ok || !impl.SameField(got, f) {
			t.Errorf("ReadField(%q) = %v, %v", text, got, ok)
		}
	}
}

func TestReadFieldOfOtherTexts(t *testing.T) {
	for _, s := range []string{
		"", " ", "x", "-", ",", "x ", " x", "1", "1x", "x1", "1x1", "1x1 ", "1x1 -", "1x1 ,", "1x1 0,", "1x1 ,0", "1x1 0,0", "1x1 - ", "x1 0", "1x 0", "x 0", " 0", "1 0", "11 0", "1x1,0", "1x10", "1,1 0", "1,1,0",
		" 1x1 0", "1x1 0 ", "1x1  0", "1 x1 0", "1x 1 0", "1 1x 0", "1x1\t0", "1x1 0\n", "1x1 0\x00", "\xff1x1 0", "1X1 0", "1*1 0", "1\u00d71 0", "1xx1 0", "1x1x 0", "1x1x1 0", "x1x1 0", "1x1 x0", "1x1 0x0", "1x1 0x", "1x2 0 0", "1x2 0;0", "1x2 0, 0", "1x2 0 ,0", "1x2 0,,0",
		"01x1 0", "1x01 0", "1x1 00", "1x1 01", "1x2 0,00", "+1x1 0", "1x+1 0", "1x1 +0", "1x1 +1", "-1x-1 0", "-1x1 0", "1x-1 0", "1x1 -0", "1x1 -1", "1x1 --1", "1x1 \u22121", "1x1 1000001", "1x1 1e3", "1x1 0x1", "1x1 1_0", "1x1 0.0", "1x1 a", "ax1 0", "1xa 0", "1x1 0a",
		"0x0 -", "0x0 0", "0x1 -", "1x0 -", "0x1 0", "1x0 0", "9x1 0,0,0,0,0,0,0,0,0", "1x9 0,0,0,0,0,0,0,0,0", "2x2 0,0,0", "2x2 0,0,0,0,0", "2x1 0", "1x2 0", "16x4 " + strings.Repeat("0,", 63) + "0",
		"18446744073709551617x1 0", "1x18446744073709551617 0", "1x1 18446744073709551616", "1x1 18446744073709551617", "1x1 1000000000001", "8x8 " + strings.Repeat("0,", 64) + "0", "8x8 " + strings.Repeat("0,", 62) + "0", "8x8 " + strings.Repeat("0,", 64), "8x8 " + strings.Repeat("0,", 100000) + "0",
		strings.Repeat("x", 100000), strings.Repeat(" ", 100000), "1x1 " + strings.Repeat("0", 100000), strings.Repeat("1", 100000) + "x1 0", strings.Repeat("1x", 100000) + "1 0",
	} {
		if f, ok := impl.ReadField(s); !impl.SameField(f, impl.Field{}) || ok {
			t.Errorf("ReadField(%.60q) = %v, %v", s, f, ok)
		}
	}
}

var fieldText = regexp.MustCompile(`^([1-8])x([1-8]) ((?:0|[1-9][0-9]{0,5}|1000000)(?:,(?:0|[1-9][0-9]{0,5}|1000000))*)$`)

// isFieldText says by itself whether a text is that of a valid field.
func isFieldText(s string) bool {
	parts := fieldText.FindStringSubmatch(s)
	return parts != nil && strings.Count(parts[3], ",")+1 == int(parts[1][0]-'0')*int(parts[2][0]-'0')
}

func checkFieldText(t *testing.T, s string) {
	f, ok := impl.ReadField(s)
	if ok != isFieldText(s) || ok && fieldAsTold(f) != s || !ok && !impl.SameField(f, impl.Field{}) {
		t.Errorf("ReadField(%q) = %v, %v", s, f, ok)
	}
}

func TestReadFieldOfNearTexts(t *testing.T) {
	for _, s := range []string{"1x1 0", "2x1 1000,0", "3x2 1,20,300,4000,50000,600000", "1x3 1000000,999999,100000", "2x2 -1,0,0,0", "8x1 1,2,3,4,5,6,7,8", "1x9 1,2,3,4,5,6,7,8"} {
		nearTexts(s, func(s string) { checkFieldText(t, s) })
	}
}

func TestReadFieldOfAllShortTexts(t *testing.T) {
	everyText("12x ,0", 7, func(s string) { checkFieldText(t, s) })
	everyText("13x,-", 5, func(s string) { checkFieldText(t, "1x"+s) })
}
