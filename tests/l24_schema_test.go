package tests

import (
	"math/rand/v2"
	"slices"
	"testing"

	"loop.example/eventstreams/impl"
)

// field returns a field.
func field(name int, value int) impl.Field {
	return impl.Field{Name: name, Default: value}
}

// fields returns fields as a schema.
func fields(list ...impl.Field) []impl.Field {
	return list
}

// someDefault returns a default, often that of a field that must be there.
func someDefault(r *rand.Rand) int {
	return oneOf(r, impl.Required, impl.Required, 0, 1, between(r, 0, impl.MaxState), impl.MaxState)
}

// someSchema returns a valid schema, in some calls with few different names, in others without required fields.
func someSchema(r *rand.Rand) []impl.Field {
	var s []impl.Field
	least := oneOf(r, 0, impl.MaxValue-11)
	lenient := r.IntN(3) == 0
	for _, name := range r.Perm(12)[:oneOf(r, 0, 1, between(r, 0, impl.MaxFields), impl.MaxFields)] {
		f := field(least+name, someDefault(r))
		if lenient {
			f.Default = max(0, f.Default)
		}
		s = append(s, f)
	}
	return s
}

// someRow returns a valid row of a schema.
func someRow(r *rand.Rand, s []impl.Field) []int {
	row := make([]int, len(s))
	for i := range row {
		row[i] = oneOf(r, 0, 1, between(r, 0, impl.MaxState), impl.MaxState)
	}
	return row
}

// longSchema returns a schema with n fields that are valid but for their number.
func longSchema(n int) []impl.Field {
	s := make([]impl.Field, n)
	for i := range s {
		s[i] = field(i%(impl.MaxValue+1), 5)
	}
	return s
}

// badFields returns fields that no schema may have, each for one reason.
func badFields() []impl.Field {
	list := fields(field(-1, 5), field(impl.MaxValue+1, 5), field(5, impl.Required-1), field(5, impl.MaxState+1))
	for _, x := range extremes {
		list = append(list, field(x, 5), field(5, x))
	}
	return list
}

// badSchemas returns schemas that are invalid, each for one reason.
func badSchemas() [][]impl.Field {
	list := [][]impl.Field{longSchema(impl.MaxFields + 1), longSchema(90), longSchema(500)}
	for _, f := range badFields() {
		list = append(list, fields(f), fields(field(0, 5), f), fields(f, field(99, impl.Required)), fields(field(1, 1), f, field(2, 2)))
	}
	twice := field(7, 3)
	list = append(list, fields(twice, twice), fields(twice, field(7, impl.Required)), fields(twice, field(1, 1), field(7, 4)), fields(field(1, 1), field(2, 2), twice, twice))
	return append(list, append(longSchema(impl.MaxFields-1), field(0, 5)), append(longSchema(impl.MaxFields-1), field(6, 5)))
}

// someSchemas are valid schemas, one of them empty, one at the limits.
func someSchemas() [][]impl.Field {
	return [][]impl.Field{nil, fields(field(1, impl.Required)), fields(field(1, 0), field(2, impl.Required), field(3, 7)), longSchema(impl.MaxFields)}
}

// namesOf returns the names of fields.
func namesOf(s []impl.Field) []int {
	var names []int
	for _, f := range s {
		names = append(names, f.Name)
	}
	return names
}

// rowSlowly returns the row that MigrateRow should for valid arguments: it takes the values out of a map by name.
func rowSlowly(from []impl.Field, to []impl.Field, row []int) ([]int, bool) {
	values := map[int]int{}
	for i, f := range from {
		values[f.Name] = row[i]
	}
	var out []int
	for _, f := range to {
		value, there := values[f.Name]
		if !there && f.Default == impl.Required {
			return nil, false
		}
		if !there {
			value = f.Default
		}
		out = append(out, value)
	}
	return out, true
}

// migrated fails the test if a row cannot be migrated, and returns the new one.
func migrated(t *testing.T, from []impl.Field, to []impl.Field, row []int) []int {
	t.Helper()
	out, ok := impl.MigrateRow(from, to, row)
	expectTrue(t, "a row can be migrated", ok)
	return out
}

// expectUnmigrated fails the test if a row can be migrated.
func expectUnmigrated(t *testing.T, from []impl.Field, to []impl.Field, row []int) {
	t.Helper()
	if out, ok := impl.MigrateRow(from, to, row); ok || out != nil {
		t.Fatalf("MigrateRow(%v, %v, %v) = %v, %v", from, to, row, out, ok)
	}
}

func TestP135SchemasCanLoseFields(t *testing.T) {
	r := source(207)
	for range rounds {
		for s := someSchema(r); len(s) > 0; s = s[:len(s)-1] {
			expectTrue(t, "a schema is valid", impl.ValidSchema(s))
			expectTrue(t, "a schema is valid without any of its fields", impl.ValidSchema(slices.Delete(slices.Clone(s), len(s)/2, len(s)/2+1)))
		}
	}
	expectTrue(t, "a schema without fields is valid", impl.ValidSchema(nil) && impl.ValidSchema(fields()))
}

func TestValidSchemaAtLimits(t *testing.T) {
	expectIs(t, "MaxFields", impl.MaxFields, 8)
	expectIs(t, "Required", impl.Required, -1)
	expectTrue(t, "a schema may have MaxFields fields", impl.ValidSchema(longSchema(impl.MaxFields)))
	for _, name := range []int{0, 1, impl.MaxValue} {
		for _, value := range []int{impl.Required, 0, 1, impl.MaxState} {
			expectTrue(t, "a schema of one field at the limits is valid", impl.ValidSchema(fields(field(name, value))))
			expectTrue(t, "the order of names and defaults does not matter", impl.ValidSchema(fields(field(50, value), field(name, value), field(49, value))))
		}
	}
}

func TestInvalidSchemas(t *testing.T) {
	for _, bad := range badSchemas() {
		expectTrue(t, "an invalid schema is not valid", !impl.ValidSchema(bad))
		expectTrue(t, "an invalid schema cannot be migrated", !impl.CanMigrate(bad, bad))
		expectTrue(t, "LostFields of an invalid schema is nil", impl.LostFields(bad, bad) == nil)
		expectUnmigrated(t, bad, bad, make([]int, len(bad)))
		for _, s := range someSchemas() {
			expectTrue(t, "an invalid schema cannot be migrated", !impl.CanMigrate(bad, s) && !impl.CanMigrate(s, bad))
			expectTrue(t, "LostFields of an invalid schema is nil", impl.LostFields(bad, s) == nil && impl.LostFields(s, bad) == nil)
			expectUnmigrated(t, bad, s, make([]int, len(bad)))
			expectUnmigrated(t, s, bad, make([]int, len(s)))
		}
	}
}

func TestP136EverySchemaCanReadItself(t *testing.T) {
	r := source(208)
	var can, cannot int
	for range rounds * 5 {
		from, to := someSchema(r), someSchema(r)
		expectTrue(t, "a schema can read itself", impl.CanMigrate(from, from))
		lenient := slices.Clone(to)
		for i := range lenient {
			lenient[i].Default = max(0, lenient[i].Default)
		}
		expectTrue(t, "without required fields every schema can be read", impl.CanMigrate(from, lenient))
		want := true
		for _, f := range to {
			want = want && (f.Default >= 0 || slices.Contains(namesOf(from), f.Name))
		}
		expectIs(t, "CanMigrate", impl.CanMigrate(from, to), want)
		can, cannot = can+amount(want), cannot+amount(!want)
	}
	expectTrue(t, "some schemas can be read, others cannot", can > 100 && cannot > 100)
}

func TestCanMigrateAtLimits(t *testing.T) {
	must, may := field(4, impl.Required), field(4, 0)
	for _, c := range []struct {
		from, to []impl.Field
		can      bool
	}{
		{nil, nil, true},
		{nil, fields(may), true},
		{nil, fields(must), false},
		{fields(must), nil, true},
		{fields(may), fields(must), true},
		{fields(must), fields(may), true},
		{fields(field(5, impl.Required)), fields(must), false},
		{fields(field(5, 4)), fields(must), false},
		{fields(field(1, 1), field(2, 2), may), fields(must), true},
		{fields(may), fields(field(1, 1), field(2, 2), must), true},
		{fields(may), fields(must, field(2, impl.Required)), false},
		{fields(may), fields(field(2, impl.Required), must), false},
		{longSchema(impl.MaxFields), fields(field(7, impl.Required), field(0, impl.Required)), true},
		{longSchema(impl.MaxFields), fields(field(8, impl.Required)), false},
	} {
		expectIs(t, "CanMigrate", impl.CanMigrate(c.from, c.to), c.can)
		if !c.can {
			expectUnmigrated(t, c.from, c.to, make([]int, len(c.from)))
		}
	}
}

func TestP137MigratedRowsKeepTheirValues(t *testing.T) {
	r := source(209)
	var both, none int
	for range rounds * 5 {
		from, to := someSchema(r), someSchema(r)
		row := someRow(r, from)
		expect(t, "MigrateRow to the same schema", migrated(t, from, from, row), row)
		want, ok := rowSlowly(from, to, row)
		if !ok {
			expectUnmigrated(t, from, to, row)
			continue
		}
		out := migrated(t, from, to, row)
		expect(t, "MigrateRow", out, want)
		for i, name := range namesOf(from) {
			place := slices.Index(namesOf(to), name)
			if place < 0 {
				none++
				continue
			}
			expectIs(t, "the value of a field of both schemas", out[place], row[i])
			both++
		}
	}
	expectTrue(t, "some fields are in both schemas, others are not", both > 100 && none > 100)
}

func TestMigrateRowAtLimits(t *testing.T) {
	expectTrue(t, "a row without fields can be migrated", len(migrated(t, nil, nil, nil)) == 0)
	expectTrue(t, "all fields can be lost", len(migrated(t, fields(field(1, impl.Required)), nil, []int{7})) == 0)
	expect(t, "all fields can be new", migrated(t, nil, fields(field(9, impl.MaxState), field(3, 0)), nil), []int{impl.MaxState, 0})
	expect(t, "a value counts before both defaults", migrated(t, fields(field(1, 5)), fields(field(1, 6)), []int{0}), []int{0})
	expect(t, "the default is that of the other schema", migrated(t, fields(field(1, 5)), fields(field(2, 6), field(1, impl.Required)), []int{impl.MaxState}), []int{6, impl.MaxState})
	long := longSchema(impl.MaxFields)
	expect(t, "the values go where their fields are", migrated(t, long, reversed(long), []int{10, 11, 12, 13, 14, 15, 16, 17}), []int{17, 16, 15, 14, 13, 12, 11, 10})
}

func TestMigrateRowOfInvalidRows(t *testing.T) {
	for _, s := range someSchemas() {
		for _, to := range [][]impl.Field{nil, s, fields(field(70, 1))} {
			migrated(t, s, to, make([]int, len(s)))
			expectUnmigrated(t, s, to, make([]int, len(s)+1))
			expectUnmigrated(t, s, to, make([]int, len(s)+500))
			if len(s) == 0 {
				continue
			}
			expectUnmigrated(t, s, to, nil)
			expectUnmigrated(t, s, to, make([]int, len(s)-1))
			for _, x := range joined(extremes, []int{-1, impl.MaxState + 1}) {
				for i := range s {
					row := make([]int, len(s))
					row[i] = x
					expectUnmigrated(t, s, to, row)
				}
			}
		}
	}
}

func TestP138NothingIsLostIfNoFieldIs(t *testing.T) {
	r := source(210)
	moved := 0
	for range rounds * 2 {
		from := someSchema(r)
		to := slices.Clone(from)
		for i := range to {
			to[i].Default = someDefault(r)
		}
		for name := 40; name < 50 && len(to) < impl.MaxFields; name += between(r, 1, 5) {
			to = append(to, field(name, between(r, 0, impl.MaxState)))
		}
		r.Shuffle(len(to), func(i int, k int) { to[i], to[k] = to[k], to[i] })
		expectTrue(t, "no field is lost", len(impl.LostFields(from, to)) == 0)
		row := someRow(r, from)
		there := migrated(t, from, to, row)
		expect(t, "MigrateRow and back", migrated(t, to, from, there), row)
		moved += amount(!slices.Equal(row, there))
	}
	expectTrue(t, "some rows are changed on the way", moved > 100)
}

func TestP139LostFieldsAreMissing(t *testing.T) {
	r := source(211)
	var some, all int
	for range rounds * 5 {
		from, to := someSchema(r), someSchema(r)
		lost := impl.LostFields(from, to)
		expect(t, "LostFields", lost, slices.DeleteFunc(namesOf(from), func(name int) bool { return slices.Contains(namesOf(to), name) }))
		for _, name := range lost {
			expectTrue(t, "a lost field is one of the first schema only", slices.Contains(namesOf(from), name) && !slices.Contains(namesOf(to), name))
		}
		expectTrue(t, "no schema loses fields to itself", len(impl.LostFields(from, from)) == 0)
		some += amount(len(lost) > 0 && len(lost) < len(from))
		all += amount(len(lost) > 0 && len(lost) == len(from))
	}
	expectTrue(t, "some schemas lose some fields, others all of them", some > 100 && all > 100)
}

func TestLostFieldsAtLimits(t *testing.T) {
	expectTrue(t, "no fields are lost without fields", len(impl.LostFields(nil, nil)) == 0 && len(impl.LostFields(nil, longSchema(3))) == 0)
	expect(t, "all fields are lost to a schema without fields", impl.LostFields(fields(field(99, 1), field(0, impl.Required), field(7, 0)), nil), []int{99, 0, 7})
	expect(t, "fields are lost even if the other schema cannot read the first one", impl.LostFields(fields(field(5, 1), field(3, 2), field(4, 3)), fields(field(3, impl.Required), field(8, impl.Required))), []int{5, 4})
	expectTrue(t, "defaults do not matter", len(impl.LostFields(fields(field(5, 1)), fields(field(5, impl.Required)))) == 0)
}

func TestSchemasKeepArguments(t *testing.T) {
	r := source(212)
	bad := field(-5, -5)
	for range rounds {
		a, b := guarded(someSchema(r), bad), guarded(someSchema(r), bad)
		row := guarded(someRow(r, a.list), -7)
		impl.ValidSchema(a.list)
		impl.CanMigrate(a.list, b.list)
		for _, to := range [][]impl.Field{a.list, b.list, nil} {
			out, _ := impl.MigrateRow(a.list, to, row.list)
			spoil(out, -5)
			spoil(impl.LostFields(a.list, to), -5)
		}
		a.check(t, "a function of schemas")
		b.check(t, "a function of schemas")
		row.check(t, "MigrateRow")
	}
}
