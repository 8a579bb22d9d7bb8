package tests

import (
	"math/rand/v2"
	"slices"
	"testing"

	"loop.example/eventstreams/impl"
)

// kv returns a key with its value.
func kv(key int, value int) impl.KeyValue {
	return impl.KeyValue{Key: key, Value: value}
}

// gone returns a key that was removed.
func gone(key int) impl.KeyValue {
	return kv(key, impl.Gone)
}

// kvs returns pairs as a list.
func kvs(pairs ...impl.KeyValue) []impl.KeyValue {
	return pairs
}

// store returns a store.
func store(fresh []impl.KeyValue, runs ...[]impl.KeyValue) impl.Store {
	return impl.Store{Fresh: fresh, Runs: runs}
}

// someStored returns a value for a store, often that of a key that was removed.
func someStored(r *rand.Rand) int {
	return oneOf(r, impl.Gone, impl.Gone, 0, 1, between(r, 0, impl.MaxState), impl.MaxState)
}

// someRun returns at least so many pairs that a store may have, sometimes only removed keys, in some calls all keys.
func someRun(r *rand.Rand, least int) []impl.KeyValue {
	var list []impl.KeyValue
	many, removed := oneOf(r, 1, 2, 4, 16), r.IntN(6) == 0
	for key := range impl.MaxKey + 1 {
		if r.IntN(16) < many {
			list = append(list, kv(key, someStored(r)))
			if removed {
				list[len(list)-1].Value = impl.Gone
			}
		}
	}
	if len(list) < least {
		return someRun(r, least)
	}
	return list
}

// someStore returns a valid store, often with MaxRuns runs or without fresh pairs.
func someStore(r *rand.Rand) impl.Store {
	s := impl.Store{Fresh: someRun(r, 0)}
	if r.IntN(4) == 0 {
		s.Fresh = nil
	}
	for range oneOf(r, 0, 1, 2, 3, impl.MaxRuns, impl.MaxRuns) {
		s.Runs = append(s.Runs, someRun(r, 1))
	}
	return s
}

// everyKey returns pairs with all keys and one value.
func everyKey(value int) []impl.KeyValue {
	var list []impl.KeyValue
	for key := range impl.MaxKey + 1 {
		list = append(list, kv(key, value))
	}
	return list
}

// badPairs returns pairs that no store may have, each for one reason.
func badPairs() []impl.KeyValue {
	list := kvs(kv(-1, 1), kv(impl.MaxKey+1, 1), kv(1, -2), kv(1, impl.MaxState+1))
	for _, x := range extremes {
		list = append(list, kv(x, 1), kv(1, x))
	}
	return list
}

// badRuns returns pairs that neither Fresh nor a run may be: by their order or by one pair.
func badRuns() [][]impl.KeyValue {
	runs := [][]impl.KeyValue{kvs(kv(2, 1), kv(1, 1)), kvs(kv(1, 1), kv(1, 1)), kvs(kv(1, 1), kv(1, 2)), kvs(kv(0, 5), kv(3, 5), kv(9, 5), kv(9, 4)), kvs(gone(4), gone(4)), joined(everyKey(3), everyKey(3))}
	for _, x := range badPairs() {
		runs = append(runs, kvs(x), kvs(kv(0, 0), x), kvs(x, kv(impl.MaxKey, 0)))
	}
	return runs
}

// badStores returns stores each of which is invalid for one reason.
func badStores() []impl.Store {
	many := slices.Repeat([][]impl.KeyValue{kvs(kv(1, 1))}, 200)
	list := []impl.Store{store(nil, many[:impl.MaxRuns+1]...), store(kvs(kv(1, 1)), many...), store(nil, nil), store(nil, kvs(kv(1, 1)), kvs()), store(kvs(kv(1, 1)), nil, kvs(kv(1, 1))), store(nil, nil, nil)}
	for _, run := range badRuns() {
		list = append(list, store(run), store(run, kvs(kv(1, 1))), store(nil, run), store(kvs(kv(1, 1)), kvs(kv(1, 1)), run), store(nil, run, kvs(kv(2, 2))))
	}
	return list
}

// valuesSlowly returns the values of a valid store, in -1 for keys that have none, as they were written: the oldest ones first.
func valuesSlowly(s impl.Store) [impl.MaxKey + 1]int {
	var values [impl.MaxKey + 1]int
	for key := range values {
		values[key] = -1
	}
	for i := len(s.Runs); i >= 0; i-- {
		list := s.Fresh
		if i > 0 {
			list = s.Runs[i-1]
		}
		for _, pair := range list {
			values[pair.Key] = pair.Value
		}
	}
	return values
}

// listSlowly returns the pairs of keys with values.
func listSlowly(s impl.Store) []impl.KeyValue {
	var list []impl.KeyValue
	for key, value := range valuesSlowly(s) {
		if value != -1 {
			list = append(list, kv(key, value))
		}
	}
	return list
}

// withPair returns pairs with one more, or with another value of its key.
func withPair(list []impl.KeyValue, pair impl.KeyValue) []impl.KeyValue {
	var out []impl.KeyValue
	for key := range impl.MaxKey + 1 {
		at := slices.IndexFunc(list, func(x impl.KeyValue) bool { return x.Key == key })
		switch {
		case key == pair.Key:
			out = append(out, pair)
		case at >= 0:
			out = append(out, list[at])
		}
	}
	return out
}

// expectStore fails the test if a store is not as expected.
func expectStore(t *testing.T, what string, got impl.Store, want impl.Store) {
	t.Helper()
	expect(t, what+", its fresh pairs", got.Fresh, want.Fresh)
	expectLists(t, what+", its runs", got.Runs, want.Runs)
}

// expectGet fails the test if the value of a key is not as expected; -1 stands for none.
func expectGet(t *testing.T, what string, s impl.Store, key int, want int) {
	t.Helper()
	if value, ok := impl.GetState(s, key); value != max(want, 0) || ok != (want >= 0) {
		t.Fatalf("%s: GetState(%v, %d) = %d, %v, not %d", what, s, key, value, ok, want)
	}
}

func TestP102KeysHaveTheirLastValue(t *testing.T) {
	r := source(166)
	var added, changed, removed int
	for range rounds * 4 {
		s := someStore(r)
		pair := kv(between(r, 0, impl.MaxKey), someStored(r))
		before := valuesSlowly(s)
		next := impl.PutState(s, pair.Key, pair.Value)
		expectStore(t, "PutState", next, impl.Store{Fresh: withPair(s.Fresh, pair), Runs: s.Runs})
		expectGet(t, "the key", next, pair.Key, pair.Value)
		for key, value := range before {
			if key != pair.Key {
				expectGet(t, "another key", next, key, value)
			}
		}
		added += amount(before[pair.Key] == -1 && pair.Value >= 0)
		changed += amount(before[pair.Key] >= 0 && pair.Value >= 0)
		removed += amount(before[pair.Key] >= 0 && pair.Value == impl.Gone)
	}
	expectTrue(t, "keys are added, changed, and removed", added > 100 && changed > 100 && removed > 100)
}

func TestPutStateAtLimits(t *testing.T) {
	expectIs(t, "Gone", impl.Gone, -1)
	expectIs(t, "MaxState", impl.MaxState, 9999)
	expectIs(t, "MaxRuns", impl.MaxRuns, 5)
	s := impl.Store{}
	for _, pair := range kvs(kv(impl.MaxKey, 0), kv(0, impl.MaxState), gone(7)) {
		s = impl.PutState(s, pair.Key, pair.Value)
	}
	expectStore(t, "PutState of values at the limits", s, store(kvs(kv(0, impl.MaxState), gone(7), kv(impl.MaxKey, 0))))
	expect(t, "ListState of values at the limits", impl.ListState(s), kvs(kv(0, impl.MaxState), kv(impl.MaxKey, 0)))
	full := store(everyKey(5), slices.Repeat([][]impl.KeyValue{everyKey(6)}, impl.MaxRuns)...)
	for key := range impl.MaxKey + 1 {
		want := store(slices.Clone(full.Fresh), full.Runs...)
		want.Fresh[key].Value = impl.Gone
		expectStore(t, "PutState to a store with all keys", impl.PutState(full, key, impl.Gone), want)
		expectGet(t, "a removed key of all runs", want, key, -1)
	}
}

func TestPutStateKeepsRemovedKeys(t *testing.T) {
	s := store(nil, kvs(kv(3, 30)))
	s = impl.PutState(s, 3, impl.Gone)
	expectStore(t, "a removed key hides that of a run", s, store(kvs(gone(3)), kvs(kv(3, 30))))
	expectStore(t, "a removed key of no run", impl.PutState(impl.Store{}, 3, impl.Gone), store(kvs(gone(3))))
	expectStore(t, "a removed key of Fresh", impl.PutState(store(kvs(kv(3, 1))), 3, impl.Gone), store(kvs(gone(3))))
	expectStore(t, "a removed key that comes back", impl.PutState(s, 3, 0), store(kvs(kv(3, 0)), kvs(kv(3, 30))))
}

func TestP103TheLastWriteCounts(t *testing.T) {
	r := source(167)
	for range rounds * 2 {
		s, key, one, two := someStore(r), between(r, 0, impl.MaxKey), someStored(r), someStored(r)
		twice := impl.PutState(impl.PutState(s, key, one), key, two)
		expectStore(t, "PutState of two values", twice, impl.PutState(s, key, two))
		expectGet(t, "the key", twice, key, two)
		other := (key + 1 + r.IntN(impl.MaxKey)) % (impl.MaxKey + 1)
		there := impl.PutState(impl.PutState(s, key, one), other, two)
		back := impl.PutState(impl.PutState(s, other, two), key, one)
		expectStore(t, "PutState of two keys, in both orders", there, back)
	}
}

func TestP104ListedKeysHaveValues(t *testing.T) {
	r := source(168)
	hidden := 0
	for range rounds * 3 {
		s := someStore(r)
		list, values := impl.ListState(s), valuesSlowly(s)
		expect(t, "ListState", list, listSlowly(s))
		for key := -2; key <= impl.MaxKey+2; key++ {
			want := -1
			if at := slices.IndexFunc(list, func(x impl.KeyValue) bool { return x.Key == key }); at >= 0 {
				want = list[at].Value
			}
			expectGet(t, "ListState has the same value", s, key, want)
			if key >= 0 && key <= impl.MaxKey {
				expectIs(t, "the value of a key", want, values[key])
				old := valuesSlowly(impl.Store{Runs: s.Runs})
				hidden += amount(want == -1 && old[key] >= 0)
			}
		}
		for _, key := range extremes {
			expectGet(t, "no store has the key", s, key, -1)
		}
	}
	expectTrue(t, "removed keys hide values", hidden > 100)
}

func TestGetStateAtLimits(t *testing.T) {
	s := store(kvs(kv(1, 10), gone(2)), kvs(kv(1, 11), kv(2, 21), kv(3, 0), gone(4)), kvs(kv(2, 22), gone(3), kv(4, 42), kv(5, impl.MaxState)))
	for key, want := range []int{-1, 10, -1, 0, -1, impl.MaxState, -1} {
		expectGet(t, "the first list that has the key counts", s, key, want)
	}
	expect(t, "ListState", impl.ListState(s), kvs(kv(1, 10), kv(3, 0), kv(5, impl.MaxState)))
	expectTrue(t, "a store without pairs has no keys", len(impl.ListState(impl.Store{})) == 0)
	expectGet(t, "a store without pairs", impl.Store{}, 0, -1)
	removed := store(everyKey(impl.Gone), everyKey(5))
	expectTrue(t, "a store whose keys were removed has none", len(impl.ListState(removed)) == 0)
	full := store(nil, everyKey(5), everyKey(4), everyKey(3), everyKey(2), everyKey(1))
	expect(t, "ListState of MaxRuns runs with all keys", impl.ListState(full), everyKey(5))
	full = store(everyKey(6), full.Runs...)
	expect(t, "ListState of MaxRuns runs with all keys, and Fresh", impl.ListState(full), everyKey(6))
}

func TestP105FlushingChangesNoValue(t *testing.T) {
	r := source(169)
	var flushed, empty, full int
	for range rounds * 4 {
		s := someStore(r)
		next, ok := impl.FlushState(s)
		expect(t, "ListState after FlushState", impl.ListState(next), listSlowly(s))
		switch {
		case len(s.Fresh) == 0:
			empty++
			expectTrue(t, "an empty Fresh can be flushed", ok)
			expectStore(t, "FlushState of an empty Fresh", next, s)
		case len(s.Runs) == impl.MaxRuns:
			full++
			expectTrue(t, "there are no more than MaxRuns runs", !ok)
			expectStore(t, "FlushState of a run too many", next, s)
		default:
			flushed++
			expectTrue(t, "Fresh can be flushed", ok)
			expectStore(t, "FlushState", next, store(nil, joined([][]impl.KeyValue{s.Fresh}, s.Runs)...))
		}
		expectTrue(t, "Fresh is empty if it succeeds", ok == (len(next.Fresh) == 0))
	}
	expectTrue(t, "stores are flushed, have nothing to flush, or are full", flushed > 100 && empty > 100 && full > 100)
}

func TestFlushStateAtLimits(t *testing.T) {
	s := impl.Store{}
	var runs [][]impl.KeyValue
	for i := range impl.MaxRuns {
		s = impl.PutState(s, 2*i, impl.Gone)
		more, ok := impl.FlushState(s)
		runs = joined([][]impl.KeyValue{kvs(gone(2 * i))}, runs)
		expectTrue(t, "there may be MaxRuns runs", ok)
		expectStore(t, "the new run is the first one, even with removed keys only", more, store(nil, runs...))
		s = more
	}
	for range 2 {
		same, ok := impl.FlushState(s)
		expectTrue(t, "without fresh pairs FlushState succeeds", ok)
		expectStore(t, "FlushState of MaxRuns runs without fresh pairs", same, store(nil, runs...))
	}
	s = impl.PutState(s, 5, 50)
	same, ok := impl.FlushState(s)
	expectTrue(t, "there may be no more than MaxRuns runs", !ok)
	expectStore(t, "FlushState with a run too many", same, store(kvs(kv(5, 50)), runs...))
	after, ok := impl.FlushState(impl.CompactState(s))
	expectTrue(t, "after compaction there is room", ok)
	expectStore(t, "FlushState after CompactState", after, store(nil, kvs(kv(5, 50))))
	none, ok := impl.FlushState(impl.Store{})
	expectTrue(t, "a store without pairs can be flushed", ok)
	expectStore(t, "FlushState of a store without pairs", none, impl.Store{})
}

// onlyRun returns a list as the runs of a store, none if it is empty.
func onlyRun(list []impl.KeyValue) [][]impl.KeyValue {
	if len(list) == 0 {
		return nil
	}
	return [][]impl.KeyValue{list}
}

func TestP106CompactionChangesNoValue(t *testing.T) {
	r := source(170)
	var one, none, shorter int
	for range rounds * 4 {
		s := someStore(r)
		next := impl.CompactState(s)
		expectStore(t, "CompactState", next, store(s.Fresh, onlyRun(listSlowly(impl.Store{Runs: s.Runs}))...))
		expect(t, "ListState after CompactState", impl.ListState(next), listSlowly(s))
		expectStore(t, "CompactState twice", impl.CompactState(next), next)
		one, none = one+amount(len(next.Runs) == 1), none+amount(len(next.Runs) == 0 && len(s.Runs) > 0)
		shorter += amount(len(s.Runs) == 1 && len(next.Runs) == 1 && len(s.Runs[0]) > len(next.Runs[0]))
	}
	expectTrue(t, "there is one run, none, or one with fewer pairs", one > 100 && none > 30 && shorter > 30)
}

func TestCompactStateAtLimits(t *testing.T) {
	expectStore(t, "CompactState of a store without pairs", impl.CompactState(impl.Store{}), impl.Store{})
	fresh := kvs(gone(1), kv(2, 0), gone(9))
	expectStore(t, "Fresh stays, with its removed keys", impl.CompactState(store(fresh)), store(fresh))
	for _, c := range []struct{ runs, want [][]impl.KeyValue }{
		{[][]impl.KeyValue{kvs(gone(1))}, nil},
		{[][]impl.KeyValue{everyKey(impl.Gone), everyKey(impl.MaxState)}, nil},
		{[][]impl.KeyValue{kvs(kv(1, 0))}, [][]impl.KeyValue{kvs(kv(1, 0))}},
		{[][]impl.KeyValue{kvs(gone(1), kv(2, 0)), kvs(kv(1, 5), kv(2, 6), kv(3, 7))}, [][]impl.KeyValue{kvs(kv(2, 0), kv(3, 7))}},
		{[][]impl.KeyValue{kvs(kv(9, 9)), kvs(gone(9)), kvs(kv(4, 4), kv(9, 8))}, [][]impl.KeyValue{kvs(kv(4, 4), kv(9, 9))}},
		{[][]impl.KeyValue{kvs(kv(5, 5)), kvs(kv(4, 4)), kvs(kv(3, 3)), kvs(kv(2, 2)), kvs(kv(1, 1))}, [][]impl.KeyValue{kvs(kv(1, 1), kv(2, 2), kv(3, 3), kv(4, 4), kv(5, 5))}},
		{slices.Repeat([][]impl.KeyValue{everyKey(1)}, impl.MaxRuns), [][]impl.KeyValue{everyKey(1)}},
	} {
		for _, fresh := range [][]impl.KeyValue{nil, fresh, everyKey(2), everyKey(impl.Gone)} {
			expectStore(t, "CompactState", impl.CompactState(store(fresh, c.runs...)), store(fresh, c.want...))
		}
	}
}

func TestP107FlushingAndCompactingWriteOneRun(t *testing.T) {
	r := source(171)
	empty := 0
	for range rounds * 4 {
		s := someStore(r)
		flushed, ok := impl.FlushState(s)
		if !ok {
			continue
		}
		next := impl.CompactState(flushed)
		expectStore(t, "CompactState after FlushState", next, store(nil, onlyRun(impl.ListState(s))...))
		empty += amount(len(next.Runs) == 0)
	}
	expectTrue(t, "some stores have no values", empty > 30)
}

func TestP108ListedKeysAscend(t *testing.T) {
	r := source(172)
	for range rounds * 2 {
		s := someStore(r)
		list := impl.ListState(s)
		for i := 1; i < len(list); i++ {
			expectTrue(t, "keys ascend", list[i-1].Key < list[i].Key)
		}
		again := impl.Store{}
		for _, i := range r.Perm(len(list)) {
			again = impl.PutState(again, list[i].Key, list[i].Value)
		}
		expectStore(t, "PutState of all keys", again, store(list))
		expect(t, "ListState of all keys", impl.ListState(again), list)
	}
}

func TestFunctionsOfInvalidStores(t *testing.T) {
	for _, bad := range badStores() {
		for _, key := range []int{0, 1, 2, impl.MaxKey} {
			expectStore(t, "PutState to an invalid store", impl.PutState(bad, key, 1), impl.Store{})
			expectGet(t, "an invalid store", bad, key, -1)
		}
		next, ok := impl.FlushState(bad)
		expectTrue(t, "an invalid store is not flushed", !ok)
		expectStore(t, "FlushState of an invalid store", next, impl.Store{})
		expectStore(t, "CompactState of an invalid store", impl.CompactState(bad), impl.Store{})
		expectTrue(t, "ListState of an invalid store is nil", impl.ListState(bad) == nil)
	}
	for _, s := range []impl.Store{{}, store(kvs(kv(1, 1)), kvs(kv(1, 2))), store(everyKey(1), everyKey(2))} {
		for _, bad := range badPairs() {
			expectStore(t, "PutState of an invalid pair", impl.PutState(s, bad.Key, bad.Value), impl.Store{})
		}
	}
}

func TestStoresKeepArguments(t *testing.T) {
	r := source(173)
	bad := kv(-5, -5)
	for range rounds * 2 {
		before := someStore(r)
		fresh, runs := guarded(before.Fresh, kv(7, 77)), guardedLists(before.Runs, kv(7, 77))
		s := impl.Store{Fresh: fresh.list, Runs: runs.lists}
		flushed, _ := impl.FlushState(s)
		for _, next := range []impl.Store{impl.PutState(s, between(r, 0, impl.MaxKey), someStored(r)), flushed, impl.CompactState(s)} {
			expectApart(t, "a function of a store", joined([][]impl.KeyValue{next.Fresh}, next.Runs), bad)
			spoil(next.Runs, kvs(bad))
		}
		impl.GetState(s, between(r, 0, impl.MaxKey))
		spoil(impl.ListState(s), bad)
		fresh.check(t, "a function of a store")
		runs.check(t, "a function of a store")
		expectStore(t, "an argument", s, before)
	}
}
