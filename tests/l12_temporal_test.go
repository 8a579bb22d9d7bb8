package tests

import (
	"math/rand/v2"
	"slices"
	"testing"

	"loop.example/eventstreams/impl"
)

// ver returns a version.
func ver(key int, from int, value int) impl.Version {
	return impl.Version{Key: key, From: from, Value: value}
}

// someVersion returns a valid version, in some calls one of few.
func someVersion(r *rand.Rand) impl.Version {
	if r.IntN(2) == 0 {
		return ver(between(r, 0, 2), between(r, 0, 9), between(r, 0, impl.MaxValue))
	}
	return ver(between(r, 0, impl.MaxKey), between(r, 0, impl.MaxTime), between(r, 0, impl.MaxValue))
}

// withVersion returns a table with one more version, as PutVersion should if there is room.
func withVersion(table []impl.Version, v impl.Version) []impl.Version {
	var out []impl.Version
	for _, x := range table {
		if x.Key < v.Key || x.Key == v.Key && x.From < v.From {
			out = append(out, x)
		}
	}
	out = append(out, v)
	for _, x := range table {
		if x.Key > v.Key || x.Key == v.Key && x.From > v.From {
			out = append(out, x)
		}
	}
	return out
}

// someTable returns a valid table, often one with MaxEvents versions.
func someTable(r *rand.Rand) []impl.Version {
	var table []impl.Version
	for n := oneOf(r, 0, 1, 5, between(r, 0, impl.MaxEvents), impl.MaxEvents); len(table) < n; {
		table = withVersion(table, someVersion(r))
	}
	return table
}

// manyVersions returns n versions that are valid but for their number.
func manyVersions(n int) []impl.Version {
	table := make([]impl.Version, n)
	for i := range table {
		table[i] = ver(1, 2*i, i%impl.MaxValue)
	}
	return table
}

// hasVersion reports whether a table has a version with the key and the time of another one.
func hasVersion(table []impl.Version, v impl.Version) bool {
	return slices.ContainsFunc(table, func(x impl.Version) bool { return x.Key == v.Key && x.From == v.From })
}

// edgeVersions returns a valid table with numbers at the limits.
func edgeVersions() []impl.Version {
	return []impl.Version{ver(0, 0, 0), ver(0, impl.MaxTime, impl.MaxValue), ver(impl.MaxKey, 0, impl.MaxValue), ver(impl.MaxKey, impl.MaxTime, 0)}
}

// badVersions returns versions that are invalid, each for one reason.
func badVersions() []impl.Version {
	var list []impl.Version
	for _, x := range joined(extremes, []int{-1}) {
		list = append(list, ver(x, 1, 1), ver(1, x, 1), ver(1, 1, x))
	}
	return append(list, ver(impl.MaxKey+1, 1, 1), ver(1, impl.MaxTime+1, 1), ver(1, 1, impl.MaxValue+1))
}

// badTables returns tables that are invalid: by their number of versions, their order, or one version.
func badTables() [][]impl.Version {
	tables := [][]impl.Version{manyVersions(impl.MaxEvents + 1), manyVersions(400), reversed(manyVersions(2))}
	tables = append(tables, []impl.Version{ver(5, 5, 5), ver(5, 5, 5)}, []impl.Version{ver(5, 5, 5), ver(5, 5, 6)}, []impl.Version{ver(5, 5, 5), ver(5, 4, 6)})
	tables = append(tables, []impl.Version{ver(5, 5, 5), ver(4, 9, 9)}, []impl.Version{ver(1, 1, 1), ver(5, 5, 5), ver(9, 9, 9), ver(9, 9, 8)})
	for _, v := range badVersions() {
		tables = append(tables, []impl.Version{v}, withVersion(edgeVersions(), v))
	}
	return tables
}

// timesOf returns times around those of a table, and others that no version has.
func timesOf(r *rand.Rand, table []impl.Version) []int {
	times := joined(extremes, []int{-1, 0, impl.MaxTime, impl.MaxTime + 1, impl.MaxReach, between(r, 0, impl.MaxTime)})
	for range min(6, len(table)) {
		from := table[r.IntN(len(table))].From
		times = append(times, from-1, from, from+1)
	}
	return times
}

// atSlowly returns what VersionAt should for a valid table.
func atSlowly(table []impl.Version, key int, time int) (int, bool) {
	value, from := 0, -1
	for _, v := range table {
		if v.Key == key && v.From <= time && v.From > from {
			value, from = v.Value, v.From
		}
	}
	return value, from >= 0
}

// expectAt fails the test if the value of a key at a time is not as expected.
func expectAt(t *testing.T, what string, table []impl.Version, key int, time int, want int, there bool) {
	t.Helper()
	if value, ok := impl.VersionAt(table, key, time); value != want || ok != there {
		t.Fatalf("%s: VersionAt(%v, %d, %d) = %d, %v, not %d, %v", what, table, key, time, value, ok, want, there)
	}
}

func TestP73NewVersionsCountFromTheirTimeOn(t *testing.T) {
	r := source(122)
	var added, changed, full int
	for range rounds * 5 {
		table, v := someTable(r), someVersion(r)
		if len(table) > 0 && r.IntN(3) == 0 {
			v.Key, v.From = table[r.IntN(len(table))].Key, table[r.IntN(len(table))].From
		}
		next, ok := impl.PutVersion(table, v)
		switch there := hasVersion(table, v); {
		case there:
			changed++
		case len(table) == impl.MaxEvents:
			full++
			expectTrue(t, "there are no more than MaxEvents versions", next == nil && !ok)
			continue
		default:
			added++
		}
		expectTrue(t, "a version can be put", ok)
		expect(t, "PutVersion", next, withVersion(table, v))
		expectAt(t, "at its time", next, v.Key, v.From, v.Value, true)
		for _, time := range timesOf(r, next) {
			if time < v.From {
				value, there := impl.VersionAt(table, v.Key, time)
				expectAt(t, "at an earlier time", next, v.Key, time, value, there)
			}
		}
	}
	expectTrue(t, "versions are added, changed, and too many", added > 100 && changed > 100 && full > 100)
}

func TestPutVersionAtLimits(t *testing.T) {
	var table []impl.Version
	for _, v := range reversed(edgeVersions()) {
		more, ok := impl.PutVersion(table, v)
		expectTrue(t, "a version at the limits can be put", ok)
		table = more
	}
	expect(t, "a table with versions at the limits", table, edgeVersions())
	full, ok := impl.PutVersion(manyVersions(impl.MaxEvents)[1:], ver(1, 0, 0))
	expectTrue(t, "there can be MaxEvents versions", ok)
	expect(t, "PutVersion of the last version", full, manyVersions(impl.MaxEvents))
	for i, v := range full {
		v.Value = 77
		got, ok := impl.PutVersion(full, v)
		expectTrue(t, "a version of a full table can be replaced", ok)
		want := slices.Clone(full)
		want[i] = v
		expect(t, "PutVersion in place of a version", got, want)
	}
	for _, v := range []impl.Version{ver(0, 0, 0), ver(0, 2, 1), ver(1, 1, 1), ver(1, 900, 1), ver(2, 0, 0), ver(2, 2, 1)} {
		got, ok := impl.PutVersion(full, v)
		expectTrue(t, "there cannot be more than MaxEvents versions", got == nil && !ok)
	}
}

func TestP74KeysAreIndependent(t *testing.T) {
	r := source(123)
	found := 0
	for range rounds * 2 {
		table, v := someTable(r), someVersion(r)
		next, ok := impl.PutVersion(table, v)
		if !ok {
			continue
		}
		for key := -1; key <= impl.MaxKey+1; key++ {
			for _, time := range timesOf(r, next) {
				if key == v.Key {
					continue
				}
				value, there := impl.VersionAt(table, key, time)
				expectAt(t, "another key", next, key, time, value, there)
				found += amount(there)
			}
		}
	}
	expectTrue(t, "some keys have values", found > rounds)
}

func TestP75ValuesStayUntilTheNextVersion(t *testing.T) {
	r := source(124)
	var found, none int
	for range rounds * 2 {
		table := someTable(r)
		for key := range impl.MaxKey + 1 {
			for _, time := range timesOf(r, table) {
				value, ok := impl.VersionAt(table, key, time)
				want, there := atSlowly(table, key, time)
				expectIs(t, "the value of a key at a time", value, want)
				expectIs(t, "whether a key has a value at a time", ok, there)
				found, none = found+amount(ok), none+amount(!ok)
			}
		}
	}
	expectTrue(t, "there are some values, and some are missing", found > rounds && none > rounds)
}

func TestVersionAtLimits(t *testing.T) {
	table := []impl.Version{ver(1, 5, 10), ver(1, 8, 11), ver(2, 0, 20), ver(4, 7, 40)}
	for _, c := range [][3]int{{1, 4, -1}, {1, 5, 10}, {1, 6, 10}, {1, 7, 10}, {1, 8, 11}, {1, 9, 11}, {1, extremes[3], 11}, {2, -1, -1}, {2, 0, 20}, {3, impl.MaxTime, -1}, {4, 6, -1}, {4, 7, 40}, {0, impl.MaxTime, -1}, {5, impl.MaxTime, -1}, {-1, 5, -1}, {1, extremes[0], -1}, {extremes[0], 5, -1}, {extremes[3], extremes[3], -1}} {
		expectAt(t, "a table", table, c[0], c[1], max(c[2], 0), c[2] >= 0)
		expectAt(t, "no versions", nil, c[0], c[1], 0, false)
	}
	expectAt(t, "the value 0", edgeVersions(), 0, 0, 0, true)
	expectAt(t, "the limits", edgeVersions(), impl.MaxKey, impl.MaxTime-1, impl.MaxValue, true)
	expectAt(t, "the limits", edgeVersions(), impl.MaxKey, impl.MaxTime, 0, true)
}

// eventsWith returns up to MaxEvents valid events, most of them with a key and a time near to that of a version.
func eventsWith(r *rand.Rand, table []impl.Version) []impl.Event {
	list := someEvents(r, impl.MaxEvents)
	for i := range list {
		if len(table) > 0 && r.IntN(4) > 0 {
			v := table[r.IntN(len(table))]
			list[i].Key, list[i].Time = v.Key, min(max(v.From+between(r, -2, 2), 0), impl.MaxTime)
		}
	}
	return list
}

func TestP76EventsGetTheValuesOfTheirTime(t *testing.T) {
	r := source(125)
	var found, none int
	for range rounds * 3 {
		table := someTable(r)
		list := eventsWith(r, table)
		var want []impl.Event
		for _, e := range list {
			alone := impl.TemporalJoin([]impl.Event{e}, table)
			value, ok := impl.VersionAt(table, e.Key, e.Time)
			if !ok {
				none++
				expectTrue(t, "an event without a value is left out", len(alone) == 0)
				continue
			}
			expect(t, "TemporalJoin of an event", alone, []impl.Event{ev(e.Time, e.Key, value)})
			want = append(want, alone...)
		}
		expect(t, "TemporalJoin of all events", impl.TemporalJoin(list, table), want)
		found += len(want)
	}
	expectTrue(t, "some events have values, others have none", found > rounds && none > rounds)
}

func TestTemporalJoinAtLimits(t *testing.T) {
	table := []impl.Version{ver(0, 0, 5), ver(0, impl.MaxTime, 0), ver(impl.MaxKey, 1, impl.MaxValue)}
	full := slices.Repeat([]impl.Event{ev(impl.MaxTime, 0, 9)}, impl.MaxEvents)
	expect(t, "TemporalJoin of MaxEvents events", impl.TemporalJoin(full, table), slices.Repeat([]impl.Event{ev(impl.MaxTime, 0, 0)}, impl.MaxEvents))
	list := []impl.Event{ev(1, impl.MaxKey, 0), ev(0, 0, 9), ev(0, impl.MaxKey, 9), ev(impl.MaxTime-1, 0, 9), ev(0, 0, 9), ev(5, 1, 9)}
	want := []impl.Event{ev(1, impl.MaxKey, impl.MaxValue), ev(0, 0, 5), ev(impl.MaxTime-1, 0, 5), ev(0, 0, 5)}
	expect(t, "TemporalJoin", impl.TemporalJoin(list, table), want)
	expectTrue(t, "without versions no event has a value", len(impl.TemporalJoin(list, nil)) == 0)
	expectTrue(t, "no events have no values", len(impl.TemporalJoin(nil, table)) == 0)
	all := manyVersions(impl.MaxEvents)
	expect(t, "TemporalJoin with MaxEvents versions", impl.TemporalJoin([]impl.Event{ev(77, 1, 0), ev(79, 1, 0)}, all), []impl.Event{ev(77, 1, 38), ev(79, 1, 39)})
}

// purgedSlowly returns what PurgeVersions should for valid arguments.
func purgedSlowly(table []impl.Version, mark int) []impl.Version {
	var out []impl.Version
	for _, v := range table {
		later := func(x impl.Version) bool { return x.Key == v.Key && x.From > v.From && x.From <= mark+1 }
		if !slices.ContainsFunc(table, later) {
			out = append(out, v)
		}
	}
	return out
}

func TestP77OldVersionsAreNotNeededBehindTheWatermark(t *testing.T) {
	r := source(126)
	var kept, left int
	for range rounds * 2 {
		table := someTable(r)
		for _, time := range timesOf(r, table) {
			mark := min(max(time, -1), impl.MaxReach)
			purged := impl.PurgeVersions(table, mark)
			expect(t, "PurgeVersions", purged, purgedSlowly(table, mark))
			expect(t, "PurgeVersions twice", impl.PurgeVersions(purged, mark), purged)
			for _, behind := range joined(timesOf(r, table), []int{mark + 1}) {
				if behind > mark {
					key := between(r, 0, oneOf(r, 2, impl.MaxKey))
					value, ok := impl.VersionAt(table, key, behind)
					expectAt(t, "behind the watermark", purged, key, behind, value, ok)
				}
			}
			kept, left = kept+len(purged), left+len(table)-len(purged)
		}
	}
	expectTrue(t, "versions are kept and left out", kept > rounds && left > rounds)
}

func TestPurgeVersionsAtLimits(t *testing.T) {
	table := []impl.Version{ver(1, 0, 1), ver(1, 5, 2), ver(1, 6, 3), ver(2, 5, 4), ver(3, 0, 5), ver(3, impl.MaxTime, 6)}
	for _, c := range []struct {
		mark int
		want []impl.Version
	}{
		{-1, table}, {3, table},
		{4, table[1:]}, {5, table[2:]}, {impl.MaxTime - 2, table[2:]},
		{impl.MaxTime - 1, []impl.Version{table[2], table[3], table[5]}}, {impl.MaxReach, []impl.Version{table[2], table[3], table[5]}},
	} {
		expect(t, "PurgeVersions", impl.PurgeVersions(table, c.mark), c.want)
		expectTrue(t, "no versions stay none", len(impl.PurgeVersions(nil, c.mark)) == 0)
	}
	all := manyVersions(impl.MaxEvents)
	expect(t, "PurgeVersions of MaxEvents versions", impl.PurgeVersions(all, 2*impl.MaxEvents-4), all[impl.MaxEvents-2:])
	expect(t, "PurgeVersions of MaxEvents versions", impl.PurgeVersions(all, 2*impl.MaxEvents-3), all[impl.MaxEvents-1:])
}

func TestFunctionsOfInvalidTables(t *testing.T) {
	list := []impl.Event{ev(5, 5, 5), ev(9, 9, 9), ev(0, 1, 0)}
	for _, bad := range badTables() {
		for _, v := range []impl.Version{bad[0], bad[len(bad)-1], ver(5, 5, 5), ver(0, 0, 0)} {
			got, ok := impl.PutVersion(bad, v)
			expectTrue(t, "nothing is put into an invalid table", got == nil && !ok)
			expectAt(t, "an invalid table", bad, v.Key, v.From, 0, false)
			expectAt(t, "an invalid table", bad, v.Key, impl.MaxTime, 0, false)
		}
		expectTrue(t, "TemporalJoin with an invalid table is nil", impl.TemporalJoin(list, bad) == nil)
		expectTrue(t, "PurgeVersions of an invalid table is nil", impl.PurgeVersions(bad, -1) == nil && impl.PurgeVersions(bad, impl.MaxReach) == nil)
	}
	for _, table := range [][]impl.Version{nil, edgeVersions(), manyVersions(impl.MaxEvents)} {
		for _, v := range badVersions() {
			got, ok := impl.PutVersion(table, v)
			expectTrue(t, "an invalid version is not put", got == nil && !ok)
		}
		for _, bad := range badLists() {
			expectTrue(t, "TemporalJoin of invalid events is nil", impl.TemporalJoin(bad, table) == nil)
		}
		for _, mark := range badReaches() {
			expectTrue(t, "PurgeVersions with an invalid watermark is nil", impl.PurgeVersions(table, mark) == nil)
		}
	}
}

func TestTablesKeepArguments(t *testing.T) {
	r := source(127)
	bad := ver(-5, -5, -5)
	for range rounds * 2 {
		g := guarded(someTable(r), ver(7, 77, 77))
		list := guarded(eventsWith(r, g.list), ev(77, 7, 77))
		v := someVersion(r)
		if len(g.list) > 0 && r.IntN(2) == 0 {
			v = g.list[r.IntN(len(g.list))]
		}
		table, _ := impl.PutVersion(g.list, v)
		spoil(table, bad)
		impl.VersionAt(g.list, v.Key, v.From)
		spoil(impl.TemporalJoin(list.list, g.list), ev(-5, -5, -5))
		spoil(impl.PurgeVersions(g.list, oneOf(r, -1, 5, impl.MaxReach)), bad)
		g.check(t, "a function of a table")
		list.check(t, "TemporalJoin")
	}
}
