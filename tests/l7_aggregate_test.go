package tests

import (
	"math/rand/v2"
	"testing"

	"loop.example/eventstreams/impl"
)

// acc returns an accumulator.
func acc(count int, sum int, least int, most int) impl.Acc {
	return impl.Acc{Count: count, Sum: sum, Least: least, Most: most}
}

// someAcc returns a valid accumulator with up to so many values, in some calls an empty one.
func someAcc(r *rand.Rand, many int) impl.Acc {
	count := oneOf(r, 0, 1, between(r, 0, many), many)
	if count == 0 {
		return impl.Acc{}
	}
	least := oneOf(r, 0, between(r, 0, impl.MaxValue), impl.MaxValue)
	most := oneOf(r, least, between(r, least, impl.MaxValue), impl.MaxValue)
	return acc(count, oneOf(r, count*least, between(r, count*least, count*most), count*most), least, most)
}

// badAccs returns accumulators that are invalid, each for one reason.
func badAccs() []impl.Acc {
	list := []impl.Acc{acc(0, 1, 0, 0), acc(0, 0, 1, 1), acc(0, 0, 0, 1), acc(-1, -5, 5, 5), acc(impl.MaxCount+1, 5, 0, 9)}
	list = append(list, acc(2, 9, 5, 9), acc(2, 19, 5, 9), acc(2, 12, 7, 5), acc(2, 12, 6, 5), acc(2, 0, -1, 5), acc(2, 10, 5, impl.MaxValue+1), acc(2, 200, 100, 100))
	for _, x := range extremes {
		list = append(list, acc(x, 5, 0, 9), acc(2, x, 0, 9), acc(2, 5, x, 9), acc(2, 5, 0, x), acc(x, x, x, x), acc(2, 5, x, x))
	}
	return list
}

// accSlowly returns what AccOf should.
func accSlowly(list []impl.Event) impl.Acc {
	a := impl.Acc{}
	for i, e := range list {
		if i == 0 || e.Value < a.Least {
			a.Least = e.Value
		}
		if e.Value > a.Most {
			a.Most = e.Value
		}
		a.Count++
		a.Sum += e.Value
	}
	return a
}

func TestP42AccumulatorsFormAMonoid(t *testing.T) {
	r := source(70)
	for range rounds * 5 {
		many := oneOf(r, 3, 499, 500, impl.MaxCount)
		a, b := someAcc(r, many), someAcc(r, many)
		got, ok := impl.MergeAcc(a, b)
		expectIs(t, "whether MergeAcc succeeds", ok, a.Count+b.Count <= impl.MaxCount)
		other, same := impl.MergeAcc(b, a)
		expectIs(t, "MergeAcc in the other order", other, got)
		expectIs(t, "whether MergeAcc in the other order succeeds", same, ok)
		if ok && a.Count > 0 && b.Count > 0 {
			expectIs(t, "MergeAcc", got, acc(a.Count+b.Count, a.Sum+b.Sum, min(a.Least, b.Least), max(a.Most, b.Most)))
		}
		if !ok {
			expectIs(t, "MergeAcc of too many values", got, impl.Acc{})
		}
		got, ok = impl.MergeAcc(a, impl.Acc{})
		expectTrue(t, "an empty accumulator can be merged", ok)
		expectIs(t, "MergeAcc with an empty accumulator", got, a)
		got, ok = impl.MergeAcc(impl.Acc{}, a)
		expectTrue(t, "an accumulator can be merged with an empty one", ok)
		expectIs(t, "MergeAcc of an empty accumulator", got, a)
	}
}

func TestMergeAccAtLimits(t *testing.T) {
	expectIs(t, "MaxCount", impl.MaxCount, 999)
	full := acc(impl.MaxCount, impl.MaxCount*impl.MaxValue, 0, impl.MaxValue)
	for _, c := range []struct {
		a, b, want impl.Acc
		ok         bool
	}{
		{acc(500, 0, 0, 0), acc(499, 0, 0, 0), acc(999, 0, 0, 0), true},
		{acc(500, 0, 0, 0), acc(500, 0, 0, 0), impl.Acc{}, false},
		{full, impl.Acc{}, full, true},
		{full, acc(1, 0, 0, 0), impl.Acc{}, false},
		{full, full, impl.Acc{}, false},
		{acc(1, 99, 99, 99), acc(1, 0, 0, 0), acc(2, 99, 0, 99), true},
		{acc(2, 13, 5, 8), acc(2, 6, 3, 3), acc(4, 19, 3, 8), true},
		{acc(2, 13, 5, 8), acc(1, 9, 9, 9), acc(3, 22, 5, 9), true},
		{impl.Acc{}, impl.Acc{}, impl.Acc{}, true},
	} {
		got, ok := impl.MergeAcc(c.a, c.b)
		expectIs(t, "whether MergeAcc succeeds", ok, c.ok)
		expectIs(t, "MergeAcc", got, c.want)
	}
	for _, bad := range badAccs() {
		for _, good := range []impl.Acc{{}, acc(1, 5, 5, 5), acc(2, 9, 0, 9)} {
			got, ok := impl.MergeAcc(bad, good)
			expectTrue(t, "an invalid first accumulator is refused", !ok && got == impl.Acc{})
			got, ok = impl.MergeAcc(good, bad)
			expectTrue(t, "an invalid second accumulator is refused", !ok && got == impl.Acc{})
		}
	}
}

func TestP43ThreeAccumulatorsCanBeMergedInAnyOrder(t *testing.T) {
	r := source(71)
	for range rounds * 5 {
		a, b, c := someAcc(r, 333), someAcc(r, 333), someAcc(r, 333)
		ab, _ := impl.MergeAcc(a, b)
		bc, _ := impl.MergeAcc(b, c)
		left, ok := impl.MergeAcc(ab, c)
		right, same := impl.MergeAcc(a, bc)
		expectTrue(t, "three accumulators can be merged", ok && same)
		expectIs(t, "MergeAcc of three accumulators", left, right)
	}
}

func TestP44ValuesAreAddedOneByOne(t *testing.T) {
	r := source(72)
	for range rounds * 5 {
		a, v := someAcc(r, impl.MaxCount-1), oneOf(r, 0, between(r, 0, impl.MaxValue), impl.MaxValue)
		got, ok := impl.AddAcc(a, v)
		expectTrue(t, "a value can be added", ok)
		expectTrue(t, "there is one value more", got.Count == a.Count+1 && got.Sum == a.Sum+v)
		expectTrue(t, "the value is in Least..Most", got.Least <= v && v <= got.Most)
		merged, _ := impl.MergeAcc(a, acc(1, v, v, v))
		expectIs(t, "AddAcc", got, merged)
	}
	got, ok := impl.AddAcc(impl.Acc{}, 7)
	expectTrue(t, "a value can be added to an empty accumulator", ok)
	expectIs(t, "AddAcc to an empty accumulator", got, acc(1, 7, 7, 7))
}

func TestAddAccOfInvalidArguments(t *testing.T) {
	refuse := func(a impl.Acc, v int) {
		t.Helper()
		if got, ok := impl.AddAcc(a, v); ok || got != (impl.Acc{}) {
			t.Fatalf("AddAcc(%v, %d) = %v, %v", a, v, got, ok)
		}
	}
	for _, v := range joined(extremes, []int{-1, impl.MaxValue + 1}) {
		refuse(acc(2, 9, 0, 9), v)
		refuse(impl.Acc{}, v)
	}
	for _, bad := range badAccs() {
		refuse(bad, 0)
		refuse(bad, 5)
	}
	refuse(acc(impl.MaxCount, 0, 0, 0), 0)
	_, ok := impl.AddAcc(acc(impl.MaxCount-1, 0, 0, 0), 0)
	expectTrue(t, "there can be MaxCount values", ok)
}

func TestP45AccumulatorsOfPartsMakeUpThatOfTheWhole(t *testing.T) {
	r := source(73)
	for range rounds * 2 {
		list := someEvents(r, impl.MaxEvents)
		n := between(r, 0, len(list))
		all := impl.AccOf(list)
		expectIs(t, "AccOf", all, accSlowly(list))
		got, ok := impl.MergeAcc(impl.AccOf(list[:n]), impl.AccOf(list[n:]))
		expectTrue(t, "accumulators of parts can be merged", ok)
		expectIs(t, "MergeAcc of AccOf of two parts", got, all)
		expectIs(t, "AccOf in reverse order", impl.AccOf(reversed(list)), all)
	}
	expectIs(t, "AccOf of no events", impl.AccOf(nil), impl.Acc{})
	for _, bad := range badLists() {
		expectIs(t, "AccOf of invalid events", impl.AccOf(bad), impl.Acc{})
	}
}

func TestP46AveragesAreBetweenTheLeastAndTheGreatestValue(t *testing.T) {
	r := source(74)
	for range rounds * 5 {
		a := someAcc(r, impl.MaxCount)
		average := impl.AverageOf(a)
		if a.Count == 0 {
			expectIs(t, "AverageOf of an empty accumulator", average, -1)
			continue
		}
		expectTrue(t, "the average is in Least..Most", a.Least <= average && average <= a.Most)
		expectTrue(t, "the average is rounded down", average*a.Count <= a.Sum && a.Sum < (average+1)*a.Count)
	}
	for v := range impl.MaxValue + 1 {
		a, _ := impl.AddAcc(impl.Acc{}, v)
		expectIs(t, "AverageOf of a single value", impl.AverageOf(a), v)
	}
	got := []int{impl.AverageOf(acc(2, 3, 1, 2)), impl.AverageOf(acc(3, 11, 3, 4)), impl.AverageOf(acc(999, 998, 0, 1)), impl.AverageOf(acc(999, 999*99, 99, 99))}
	expect(t, "AverageOf of some accumulators", got, []int{1, 3, 0, 99})
	for _, bad := range badAccs() {
		expectIs(t, "AverageOf of an invalid accumulator", impl.AverageOf(bad), -1)
	}
}

func TestAccOfKeepsItsArgument(t *testing.T) {
	r := source(75)
	for range rounds {
		g := guarded(someEvents(r, impl.MaxEvents), ev(77, 7, 77))
		impl.AccOf(g.list)
		g.check(t, "AccOf")
	}
}
