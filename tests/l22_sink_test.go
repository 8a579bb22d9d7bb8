package tests

import (
	"math/rand/v2"
	"slices"
	"testing"

	"loop.example/eventstreams/impl"
)

// batch returns a batch.
func batch(number int, results ...int) impl.Batch {
	return impl.Batch{Number: number, Results: results}
}

// sink returns a sink.
func sink(open []int, done []int, pending ...impl.Batch) impl.Sink {
	return impl.Sink{Open: open, Pending: pending, Done: done}
}

// someResult returns a valid result.
func someResult(r *rand.Rand) int {
	return oneOf(r, 0, between(r, 0, 9), between(r, 0, impl.MaxResult), impl.MaxResult)
}

// someResults returns n valid results.
func someResults(r *rand.Rand, n int) []int {
	list := make([]int, n)
	for i := range list {
		list[i] = someResult(r)
	}
	return list
}

// someSink returns a valid sink, often with as many batches or results as there may be.
func someSink(r *rand.Rand) impl.Sink {
	few := oneOf(r, 2, 10, impl.MaxEvents)
	s := impl.Sink{
		Open: someResults(r, mostly(r, between(r, 0, few), impl.MaxEvents)),
		Done: someResults(r, oneOf(r, 0, between(r, 0, few), between(r, 60, impl.MaxDone), impl.MaxDone-few, impl.MaxDone)),
	}
	number, step := 0, oneOf(r, 1, 3, 20)
	for range oneOf(r, 0, 1, 2, impl.MaxOpen, impl.MaxOpen) {
		number += between(r, 1, step)
		s.Pending = append(s.Pending, batch(number, someResults(r, between(r, 0, few))...))
	}
	return s
}

// fullSink returns a valid sink that has as much of everything as there may be.
func fullSink() impl.Sink {
	s := sink(slices.Repeat([]int{1}, impl.MaxEvents), slices.Repeat([]int{impl.MaxResult}, impl.MaxDone))
	for i := range impl.MaxOpen {
		s.Pending = append(s.Pending, batch(impl.MaxCheckpoint-impl.MaxOpen+1+i, slices.Repeat([]int{0}, impl.MaxEvents)...))
	}
	return s
}

// copyOfSink returns a sink in new memory.
func copyOfSink(s impl.Sink) impl.Sink {
	out := sink(slices.Clone(s.Open), slices.Clone(s.Done))
	for _, b := range s.Pending {
		out.Pending = append(out.Pending, batch(b.Number, slices.Clone(b.Results)...))
	}
	return out
}

// badNumbers returns numbers that no checkpoint may have.
func badNumbers() []int {
	return joined(extremes, []int{-1, 0, impl.MaxCheckpoint + 1, 1000})
}

// badResultLists returns results that a sink may not have, wherever they are.
func badResultLists() [][]int {
	var lists [][]int
	for _, x := range joined(extremes, []int{-1, impl.MaxResult + 1}) {
		lists = append(lists, []int{x}, []int{x, 0}, []int{5, impl.MaxResult, x})
	}
	return append(lists, make([]int, 1000))
}

// badSinks returns sinks each of which is invalid for one reason.
func badSinks() []impl.Sink {
	list := []impl.Sink{
		sink(make([]int, impl.MaxEvents+1), nil), sink(nil, make([]int, impl.MaxDone+1)), sink(nil, nil, batch(1, make([]int, impl.MaxEvents+1)...)), sink(nil, nil, batch(1), batch(2, make([]int, impl.MaxEvents+1)...)),
		sink(nil, nil, batch(1), batch(2), batch(3), batch(4), batch(5)), sink(nil, nil, slices.Repeat([]impl.Batch{batch(1)}, 300)...),
		sink(nil, nil, batch(2), batch(1)), sink(nil, nil, batch(2), batch(2)), sink(nil, nil, batch(2, 5), batch(2, 5)), sink(nil, nil, batch(1), batch(3), batch(9), batch(8)),
	}
	for _, bad := range badResultLists() {
		list = append(list, sink(bad, nil), sink(nil, bad), sink(nil, nil, batch(3, bad...)), sink([]int{1}, []int{2}, batch(3, 4), batch(5, bad...)))
	}
	for _, number := range badNumbers() {
		list = append(list, sink(nil, nil, batch(number)), sink([]int{1}, []int{1}, batch(number, 1)))
		if number > 0 {
			list = append(list, sink(nil, nil, batch(5), batch(number)))
		} else {
			list = append(list, sink(nil, nil, batch(number), batch(5)))
		}
	}
	return list
}

// expectSink fails the test if a sink is not as expected.
func expectSink(t *testing.T, what string, got impl.Sink, want impl.Sink) {
	t.Helper()
	expect(t, what+", its open results", got.Open, want.Open)
	expect(t, what+", the numbers of its batches", batchNumbers(got), batchNumbers(want))
	expectLists(t, what+", its pending results", batchResults(got), batchResults(want))
	expect(t, what+", its results that are done", got.Done, want.Done)
}

// batchNumbers returns the numbers of the pending batches.
func batchNumbers(s impl.Sink) []int {
	var numbers []int
	for _, b := range s.Pending {
		numbers = append(numbers, b.Number)
	}
	return numbers
}

// batchResults returns the results of the pending batches.
func batchResults(s impl.Sink) [][]int {
	var results [][]int
	for _, b := range s.Pending {
		results = append(results, b.Results)
	}
	return results
}

// prepareSlowly returns what PrepareSink should for a valid sink and a valid number.
func prepareSlowly(before impl.Sink, number int) (impl.Sink, bool) {
	s := copyOfSink(before)
	if len(s.Pending) >= impl.MaxOpen {
		return s, false
	}
	for _, n := range batchNumbers(s) {
		if n >= number {
			return s, false
		}
	}
	return sink(nil, s.Done, append(s.Pending, batch(number, s.Open...))...), true
}

// commitSlowly returns what CommitSink should for a valid sink.
func commitSlowly(before impl.Sink, number int) (impl.Sink, bool) {
	s := copyOfSink(before)
	for len(s.Pending) > 0 && s.Pending[0].Number <= number {
		s.Done = append(s.Done, s.Pending[0].Results...)
		s.Pending = s.Pending[1:]
	}
	if len(s.Done) > impl.MaxDone {
		return copyOfSink(before), false
	}
	return s, true
}

// expectPrepared fails the test if PrepareSink of a valid sink does not return what it should. It returns the sink, and whether it succeeds.
func expectPrepared(t *testing.T, s impl.Sink, number int) (impl.Sink, bool) {
	t.Helper()
	next, ok := impl.PrepareSink(s, number)
	want, can := prepareSlowly(s, number)
	expectSink(t, "PrepareSink", next, want)
	expectIs(t, "whether a batch can be prepared", ok, can)
	return next, ok
}

// expectCommitted fails the test if CommitSink of a valid sink does not return what it should. It returns the sink, and whether it succeeds.
func expectCommitted(t *testing.T, s impl.Sink, number int) (impl.Sink, bool) {
	t.Helper()
	next, ok := impl.CommitSink(s, number)
	want, can := commitSlowly(s, number)
	expectSink(t, "CommitSink", next, want)
	expectIs(t, "whether batches can be committed", ok, can)
	return next, ok
}

// nearBatch returns a number in low..MaxCheckpoint, mostly one near that of a pending batch.
func nearBatch(r *rand.Rand, s impl.Sink, low int) int {
	if len(s.Pending) == 0 || r.IntN(4) == 0 {
		return between(r, low, impl.MaxCheckpoint)
	}
	number := s.Pending[r.IntN(len(s.Pending))].Number + oneOf(r, -1, 0, 0, 1)
	return max(low, min(number, impl.MaxCheckpoint))
}

func TestP124OpenResultsAreNotDone(t *testing.T) {
	r := source(193)
	var written, full int
	for range rounds * 3 {
		s, x := someSink(r), someResult(r)
		next, ok := impl.WriteSink(s, x)
		want := copyOfSink(s)
		if len(s.Open) < impl.MaxEvents {
			want.Open = append(want.Open, x)
		}
		expectSink(t, "WriteSink", next, want)
		expectIs(t, "whether a result is written", ok, len(s.Open) < impl.MaxEvents)
		written, full = written+amount(ok), full+amount(!ok)
	}
	expectTrue(t, "some sinks have room, others are full", written > 100 && full > 100)
}

func TestWriteSinkAtLimits(t *testing.T) {
	expectIs(t, "MaxResult", impl.MaxResult, 199999)
	expectIs(t, "MaxDone", impl.MaxDone, 100)
	s, want := impl.Sink{}, impl.Sink{}
	for i := range impl.MaxEvents {
		x := []int{0, impl.MaxResult, i}[i%3]
		more, ok := impl.WriteSink(s, x)
		want.Open = append(want.Open, x)
		expectTrue(t, "there may be MaxEvents open results", ok)
		expectSink(t, "WriteSink", more, want)
		s = more
	}
	for _, full := range []impl.Sink{s, fullSink()} {
		for _, x := range []int{0, 5, impl.MaxResult} {
			same, ok := impl.WriteSink(full, x)
			expectTrue(t, "there may be no more open results", !ok)
			expectSink(t, "WriteSink of a result too many", same, full)
		}
	}
	almost := fullSink()
	almost.Open = almost.Open[1:]
	next, ok := impl.WriteSink(almost, 1)
	expectTrue(t, "only open results count", ok)
	expectSink(t, "WriteSink with many batches and results", next, fullSink())
}

func TestP125PreparedResultsAreDoneOnceTheyAreCommitted(t *testing.T) {
	r := source(194)
	var done, many, refused int
	for range rounds * 4 {
		s := someSink(r)
		number := nearBatch(r, s, 1)
		next, ok := expectPrepared(t, s, number)
		if !ok {
			refused++
			continue
		}
		want := slices.Clone(s.Done)
		for _, b := range s.Pending {
			want = append(want, b.Results...)
		}
		want = append(want, s.Open...)
		committed, ok := expectCommitted(t, next, number)
		expectIs(t, "whether the batches are committed", ok, len(want) <= impl.MaxDone)
		if ok {
			done++
			expectSink(t, "CommitSink after PrepareSink", committed, impl.Sink{Done: want})
		} else {
			many++
			expectSink(t, "CommitSink with results too many", committed, next)
		}
	}
	expectTrue(t, "batches are committed, too large, or refused", done > 100 && many > 100 && refused > 100)
}

func TestPrepareSinkAtLimits(t *testing.T) {
	s, want := impl.Sink{}, impl.Sink{}
	for i, number := range []int{1, 2, impl.MaxCheckpoint - 1, impl.MaxCheckpoint} {
		next, ok := impl.PrepareSink(s, number)
		want.Pending = append(want.Pending, batch(number))
		expectTrue(t, "MaxOpen batches may be pending, which may be empty", ok)
		expectSink(t, "PrepareSink", next, want)
		for _, old := range want.Pending {
			same, ok := impl.PrepareSink(next, old.Number)
			expectTrue(t, "a number is used once", !ok)
			expectSink(t, "PrepareSink with a number again", same, want)
		}
		s = next
		expectIs(t, "the number of batches", len(s.Pending), i+1)
	}
	four := sink([]int{7, 8}, []int{9}, batch(1, 1), batch(2), batch(3, 3, 4), batch(4, 5))
	for number := 1; number <= impl.MaxCheckpoint; number++ {
		same, ok := impl.PrepareSink(four, number)
		expectTrue(t, "there may be no more than MaxOpen batches", !ok)
		expectSink(t, "PrepareSink with a batch too many", same, four)
		three := sink([]int{7, 8}, []int{9}, batch(5, 1), batch(6), batch(8))
		next, ok := expectPrepared(t, three, number)
		expectIs(t, "whether the number is greater than the last one", ok, number > 8)
		expectIs(t, "whether the results are open", len(next.Open) == 0, ok)
	}
	full := fullSink()
	full.Pending = full.Pending[:impl.MaxOpen-1]
	next, ok := impl.PrepareSink(full, impl.MaxCheckpoint)
	expectTrue(t, "a batch may have MaxEvents results", ok)
	expectSink(t, "PrepareSink of MaxEvents results", next, sink(nil, full.Done, append(full.Pending, batch(impl.MaxCheckpoint, full.Open...))...))
}

func TestP126CommittingTwiceWritesOnce(t *testing.T) {
	r := source(195)
	var some, none, several, failed int
	for range rounds * 4 {
		s := someSink(r)
		number := nearBatch(r, s, 0)
		next, ok := expectCommitted(t, s, number)
		again, still := expectCommitted(t, next, number)
		expectIs(t, "whether batches are committed again", still, ok)
		expectSink(t, "CommitSink again", again, next)
		expect(t, "CommitSink, its open results", next.Open, s.Open)
		more, can := expectCommitted(t, s, between(r, number, impl.MaxCheckpoint))
		if can {
			expectTrue(t, "fewer batches can be committed, too", ok)
			expect(t, "what a greater number writes first", more.Done[:len(next.Done)], next.Done)
		}
		gone := len(s.Pending) - len(next.Pending)
		some, several = some+amount(gone == 1), several+amount(gone > 1)
		none, failed = none+amount(ok && gone == 0), failed+amount(!ok)
	}
	expectTrue(t, "one batch is committed, or several, or none", some > 100 && several > 100 && none > 100 && failed > 30)
}

func TestCommitSinkAtLimits(t *testing.T) {
	s := sink([]int{9}, []int{1}, batch(2, 20, 21), batch(4), batch(6, 60), batch(8, 80))
	for _, c := range []struct {
		number int
		want   impl.Sink
	}{
		{0, s}, {1, s}, {-1, s}, {extremes[0], s},
		{2, sink([]int{9}, []int{1, 20, 21}, s.Pending[1:]...)},
		{3, sink([]int{9}, []int{1, 20, 21}, s.Pending[1:]...)},
		{4, sink([]int{9}, []int{1, 20, 21}, s.Pending[2:]...)},
		{6, sink([]int{9}, []int{1, 20, 21, 60}, s.Pending[3:]...)},
		{7, sink([]int{9}, []int{1, 20, 21, 60}, s.Pending[3:]...)},
		{8, sink([]int{9}, []int{1, 20, 21, 60, 80})},
		{impl.MaxCheckpoint + 1, sink([]int{9}, []int{1, 20, 21, 60, 80})},
		{extremes[3], sink([]int{9}, []int{1, 20, 21, 60, 80})},
	} {
		next, ok := impl.CommitSink(s, c.number)
		expectTrue(t, "every number can be committed", ok)
		expectSink(t, "CommitSink", next, c.want)
	}
	expectCommits := func(done int, size int, can bool) {
		t.Helper()
		s := sink([]int{5}, make([]int, done), batch(1), batch(3, slices.Repeat([]int{7}, size)...), batch(5))
		next, ok := expectCommitted(t, s, 4)
		expectIs(t, "whether results can be done", ok, can)
		expectIs(t, "how many results are done", len(next.Done), done+amount(can)*size)
	}
	expectCommits(impl.MaxDone-1, 1, true)
	expectCommits(impl.MaxDone, 1, false)
	expectCommits(impl.MaxDone, 0, true)
	expectCommits(impl.MaxDone-impl.MaxEvents, impl.MaxEvents, true)
	expectCommits(impl.MaxDone-impl.MaxEvents+1, impl.MaxEvents, false)
	full := fullSink()
	same, ok := impl.CommitSink(full, full.Pending[0].Number-1)
	expectTrue(t, "without a batch nothing changes", ok)
	expectSink(t, "CommitSink of no batch", same, full)
	same, ok = impl.CommitSink(full, impl.MaxCheckpoint)
	expectTrue(t, "there would be too many results", !ok)
	expectSink(t, "CommitSink of a full sink", same, full)
	none, ok := impl.CommitSink(impl.Sink{}, 5)
	expectTrue(t, "a sink without results can be committed", ok)
	expectSink(t, "CommitSink of a sink without results", none, impl.Sink{})
}

func TestP127AfterAFailureOnlyCompleteCheckpointsAreDone(t *testing.T) {
	r := source(196)
	var restored, failed, lost int
	for range rounds * 4 {
		s := someSink(r)
		number := nearBatch(r, s, 0)
		committed, can := expectCommitted(t, s, number)
		next, ok := impl.RestoreSink(s, number)
		expectIs(t, "whether a sink can be restored", ok, can)
		if ok {
			restored++
			lost += amount(len(committed.Pending) > 0)
			expectSink(t, "RestoreSink", next, impl.Sink{Done: committed.Done})
			again, ok := impl.RestoreSink(next, number)
			expectTrue(t, "a sink can be restored twice", ok)
			expectSink(t, "RestoreSink twice", again, next)
		} else {
			failed++
			expectSink(t, "RestoreSink that fails", next, s)
		}
	}
	expectTrue(t, "sinks are restored, lose batches, or have too many results", restored > 100 && lost > 100 && failed > 100)
}

func TestRestoreSinkAtLimits(t *testing.T) {
	s := sink([]int{9}, []int{1}, batch(1, 20), batch(2, 30), batch(impl.MaxCheckpoint, 40))
	for number, want := range map[int][]int{0: {1}, 1: {1, 20}, 2: {1, 20, 30}, impl.MaxCheckpoint - 1: {1, 20, 30}, impl.MaxCheckpoint: {1, 20, 30, 40}} {
		next, ok := impl.RestoreSink(s, number)
		expectTrue(t, "a checkpoint can be restored", ok)
		expectSink(t, "RestoreSink", next, impl.Sink{Done: want})
	}
	full := fullSink()
	next, ok := impl.RestoreSink(full, 0)
	expectTrue(t, "before the first checkpoint no batch is committed", ok)
	expectSink(t, "RestoreSink before the first checkpoint", next, impl.Sink{Done: full.Done})
	same, ok := impl.RestoreSink(full, impl.MaxCheckpoint)
	expectTrue(t, "there would be too many results", !ok)
	expectSink(t, "RestoreSink with results too many", same, full)
}

func TestFunctionsOfInvalidSinks(t *testing.T) {
	refused := func(what string, next impl.Sink, ok bool) {
		t.Helper()
		expectTrue(t, what+" fails", !ok)
		expectSink(t, what, next, impl.Sink{})
	}
	for _, bad := range badSinks() {
		next, ok := impl.WriteSink(bad, 5)
		refused("WriteSink of an invalid sink", next, ok)
		for _, number := range []int{0, 1, 6, impl.MaxCheckpoint} {
			next, ok = impl.CommitSink(bad, number)
			refused("CommitSink of an invalid sink", next, ok)
			next, ok = impl.RestoreSink(bad, number)
			refused("RestoreSink of an invalid sink", next, ok)
			next, ok = impl.PrepareSink(bad, number)
			refused("PrepareSink of an invalid sink", next, ok)
		}
	}
	for _, s := range []impl.Sink{{}, fullSink(), sink([]int{5}, []int{6}, batch(2, 7))} {
		for _, x := range joined(extremes, []int{-1, impl.MaxResult + 1}) {
			next, ok := impl.WriteSink(s, x)
			refused("WriteSink of an invalid result", next, ok)
		}
		for _, number := range badNumbers() {
			next, ok := impl.PrepareSink(s, number)
			refused("PrepareSink of an invalid number", next, ok)
			if number != 0 {
				next, ok = impl.RestoreSink(s, number)
				refused("RestoreSink of an invalid number", next, ok)
			}
		}
	}
}

// expectSinkApart fails the test if two lists of a sink share memory. It overwrites them.
func expectSinkApart(t *testing.T, what string, s impl.Sink) {
	t.Helper()
	expectApart(t, what, append(batchResults(s), s.Open, s.Done), -5)
	spoil(s.Pending, batch(-5))
}

func TestSinksKeepArguments(t *testing.T) {
	r := source(197)
	for range rounds * 2 {
		before := someSink(r)
		lists := guardedLists(append(batchResults(before), before.Open, before.Done), -7)
		s := copyOfSink(before)
		for i := range s.Pending {
			s.Pending[i].Results = lists.lists[i]
		}
		s.Open, s.Done = lists.lists[len(s.Pending)], lists.lists[len(s.Pending)+1]
		memory := append(s.Pending, batch(-7))
		s.Pending = memory[:len(s.Pending)]
		number := nearBatch(r, s, 1)
		written, _ := impl.WriteSink(s, 5)
		prepared, _ := impl.PrepareSink(s, number)
		committed, _ := impl.CommitSink(s, number)
		restored, _ := impl.RestoreSink(s, number)
		for _, next := range []impl.Sink{written, prepared, committed, restored} {
			expectSinkApart(t, "a function of a sink", next)
		}
		lists.check(t, "a function of a sink")
		expectSink(t, "an argument", s, before)
		expectIs(t, "what is behind an argument", memory[len(s.Pending)].Number, -7)
	}
}
