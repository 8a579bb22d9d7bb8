package tests

import (
	"math/rand/v2"
	"slices"
	"testing"

	"loop.example/eventstreams/impl"
)

// kinds returns the kinds of steps that letters stand for: r is JobRead, s JobSave, c JobComplete, f JobFail, and others are no steps.
func kinds(letters string) []int {
	var list []int
	for _, letter := range []byte(letters) {
		switch letter {
		case 'r':
			list = append(list, impl.JobRead)
		case 's':
			list = append(list, impl.JobSave)
		case 'c':
			list = append(list, impl.JobComplete)
		case 'f':
			list = append(list, impl.JobFail)
		default:
			list = append(list, 7)
		}
	}
	return list
}

// someKinds returns up to most steps, in some calls of few kinds, and rarely with numbers that are no kinds.
func someKinds(r *rand.Rand, most int) []int {
	var list []int
	letters := []string{"rscf", "rrrrsscf", "rrrrrrrrscf", "rrrrssssssssc", "rrrrssssssssf", "rrrsscccf", "rrrrrrrrrrsffx", "rrrrrsssx", "rrrrrrrrrrrrrrsssc"}[r.IntN(9)]
	for range oneOf(r, between(r, 0, 9), between(r, 0, most), most, most) {
		list = append(list, kinds(letters[r.IntN(len(letters)):])[0])
		if r.IntN(40) == 0 {
			list[len(list)-1] = oneOf(r, 0, -1, 5, extremes[0], extremes[3])
		}
	}
	return list
}

// totalOf returns the sum of the values of the events with a key, and whether there is one.
func totalOf(list []impl.Event, key int) (int, bool) {
	total, found := 0, false
	for _, e := range list {
		if e.Key == key {
			total, found = total+e.Value, true
		}
	}
	return total, found
}

// stateSlowly returns the sums of the values of events, one key after the other.
func stateSlowly(list []impl.Event) []impl.KeyValue {
	var state []impl.KeyValue
	for key := range impl.MaxKey + 1 {
		if total, found := totalOf(list, key); found {
			state = append(state, kv(key, total))
		}
	}
	return state
}

// resultsSlowly returns the results of events, each from all events up to it.
func resultsSlowly(list []impl.Event) []int {
	var results []int
	for i, e := range list {
		total, _ := totalOf(list[:i+1], e.Key)
		results = append(results, 10000*e.Key+total)
	}
	return results
}

// shot is a snapshot in short: its number, and how many events it has read.
type shot struct {
	number int
	offset int
}

// jobSlowly returns the job that JobPlay should for valid events: from how many events were read at which time, and nothing else.
func jobSlowly(list []impl.Event, steps []int) impl.Job {
	offset, next := 0, 1
	last := shot{}
	var pending []shot
	for _, kind := range steps {
		switch {
		case kind == impl.JobRead && offset < len(list):
			offset++
		case kind == impl.JobSave && len(pending) < impl.MaxOpen:
			pending = append(pending, shot{next, offset})
			next++
		case kind == impl.JobComplete && len(pending) > 0:
			last, pending = pending[len(pending)-1], nil
		case kind == impl.JobFail:
			offset, pending = last.offset, nil
		}
	}
	return jobOf(list, offset, next, last, pending)
}

// jobOf returns the job that has read some events, with a last complete snapshot and those that are not complete.
func jobOf(list []impl.Event, offset int, next int, last shot, pending []shot) impl.Job {
	results := resultsSlowly(list)
	j := impl.Job{Offset: offset, State: stateSlowly(list[:offset]), Last: last.number, Next: next}
	j.Sink.Done = results[:last.offset]
	if last.number > 0 {
		j.Saved = append(j.Saved, impl.Snapshot{Number: last.number, Offset: last.offset, State: stateSlowly(list[:last.offset])})
	}
	from := last.offset
	for _, x := range pending {
		j.Saved = append(j.Saved, impl.Snapshot{Number: x.number, Offset: x.offset, State: stateSlowly(list[:x.offset])})
		j.Sink.Pending = append(j.Sink.Pending, batch(x.number, results[from:x.offset]...))
		from = x.offset
	}
	j.Sink.Open = results[from:offset]
	return j
}

// expectJob fails the test if a job is not as expected.
func expectJob(t *testing.T, what string, got impl.Job, want impl.Job) {
	t.Helper()
	expectIs(t, what+", its offset", got.Offset, want.Offset)
	expect(t, what+", its state", got.State, want.State)
	expectSink(t, what, got.Sink, want.Sink)
	expect(t, what+", its snapshots", shotsOf(got), shotsOf(want))
	expectLists(t, what+", the states of its snapshots", savedStates(got), savedStates(want))
	expectIs(t, what+", its last number", got.Last, want.Last)
	expectIs(t, what+", its next number", got.Next, want.Next)
}

// shotsOf returns the numbers and offsets of the snapshots of a job.
func shotsOf(j impl.Job) []shot {
	var list []shot
	for _, x := range j.Saved {
		list = append(list, shot{x.Number, x.Offset})
	}
	return list
}

// savedStates returns the states of the snapshots of a job.
func savedStates(j impl.Job) [][]impl.KeyValue {
	var states [][]impl.KeyValue
	for _, x := range j.Saved {
		states = append(states, x.State)
	}
	return states
}

// played fails the test if the steps cannot be performed, and returns the job.
func played(t *testing.T, list []impl.Event, steps []int) impl.Job {
	t.Helper()
	j, ok := impl.JobPlay(list, steps)
	expectTrue(t, "steps can be performed", ok)
	return j
}

func TestP128ResultsAreRunningSums(t *testing.T) {
	r := source(198)
	for range rounds {
		list := someEvents(r, impl.MaxEvents)
		results := impl.JobReference(list)
		expect(t, "JobReference", results, resultsSlowly(list))
		for _, pair := range impl.JobState(list, len(list)) {
			last := -1
			for i, e := range list {
				if e.Key == pair.Key {
					last = results[i]
				}
			}
			expectIs(t, "the last result of a key", last, 10000*pair.Key+pair.Value)
		}
	}
}

func TestJobReferenceAtLimits(t *testing.T) {
	expectTrue(t, "without events there are no results", len(impl.JobReference(nil)) == 0)
	expect(t, "events are taken as they come", impl.JobReference([]impl.Event{ev(9, 2, 5), ev(3, 0, 0), ev(1, 2, 1), ev(9, 0, 7), ev(0, 2, 0)}), []int{20005, 0, 20006, 7, 20006})
	most := slices.Repeat([]impl.Event{ev(impl.MaxTime, impl.MaxKey, impl.MaxValue)}, impl.MaxEvents)
	results := impl.JobReference(most)
	expect(t, "JobReference of the greatest values", results, resultsSlowly(most))
	expectIs(t, "the greatest result", results[impl.MaxEvents-1], 153960)
	expectIs(t, "the sum of one value", impl.JobReference(most[:1])[0], 150099)
}

func TestP129StatesAddUp(t *testing.T) {
	r := source(199)
	zeros := 0
	for range rounds {
		list := someEvents(r, impl.MaxEvents)
		sum := 0
		for n := range len(list) + 1 {
			state := impl.JobState(list, n)
			expect(t, "JobState", state, stateSlowly(list[:n]))
			total := 0
			for _, pair := range state {
				total += pair.Value
				zeros += amount(pair.Value == 0)
			}
			expectIs(t, "the sum of the values", total, sum)
			if n < len(list) {
				e := list[n]
				sum += e.Value
				before, _ := totalOf(list[:n], e.Key)
				expect(t, "an event changes the value of its key only", impl.JobState(list, n+1), withPair(state, kv(e.Key, before+e.Value)))
			}
		}
	}
	expectTrue(t, "keys have the value 0", zeros > 100)
}

func TestJobStateAtLimits(t *testing.T) {
	list := []impl.Event{ev(9, 15, 5), ev(3, 0, 0), ev(1, 15, 99), ev(9, 7, 7)}
	for n, want := range [][]impl.KeyValue{nil, kvs(kv(15, 5)), kvs(kv(0, 0), kv(15, 5)), kvs(kv(0, 0), kv(15, 104)), kvs(kv(0, 0), kv(7, 7), kv(15, 104))} {
		expect(t, "JobState", impl.JobState(list, n), want)
	}
	expectTrue(t, "no events have no state", len(impl.JobState(nil, 0)) == 0)
	most := slices.Repeat([]impl.Event{ev(0, 3, impl.MaxValue)}, impl.MaxEvents)
	expect(t, "JobState of the greatest values", impl.JobState(most, impl.MaxEvents), kvs(kv(3, 3960)))
}

func TestJobReferenceAndStateOfInvalidArguments(t *testing.T) {
	for _, bad := range badLists() {
		expectTrue(t, "JobReference of invalid events is nil", impl.JobReference(bad) == nil)
		for _, n := range []int{0, 1, len(bad)} {
			expectTrue(t, "JobState of invalid events is nil", impl.JobState(bad, n) == nil)
		}
	}
	for _, list := range [][]impl.Event{nil, {ev(1, 1, 1)}, slices.Repeat([]impl.Event{ev(2, 2, 2)}, impl.MaxEvents)} {
		for _, n := range joined(extremes, []int{-1, len(list) + 1, impl.MaxEvents + 1}) {
			expectTrue(t, "JobState of another number of events is nil", impl.JobState(list, n) == nil)
		}
	}
}

func TestJobPlay(t *testing.T) {
	r := source(200)
	var back, early, full, several, ended int
	for range rounds {
		list, steps := someEvents(r, impl.MaxEvents), someKinds(r, impl.MaxKinds)
		for n := range len(steps) + 1 {
			want := jobSlowly(list, steps[:n])
			expectJob(t, "JobPlay", played(t, list, steps[:n]), want)
			if n == len(steps) {
				continue
			}
			back += amount(steps[n] == impl.JobFail && want.Last > 0 && len(want.Sink.Open) > 0)
			early += amount(steps[n] == impl.JobFail && want.Last == 0 && len(want.Sink.Pending) > 0)
			full += amount(steps[n] == impl.JobSave && len(want.Sink.Pending) == impl.MaxOpen)
			several += amount(steps[n] == impl.JobComplete && len(want.Sink.Pending) > 1)
			ended += amount(steps[n] == impl.JobRead && want.Offset == len(list))
		}
	}
	expectTrue(t, "jobs fail after and before the first complete snapshot", back > 100 && early > 100)
	expectTrue(t, "sinks are full, batches are committed together, and all events are read", full > 100 && several > 100 && ended > 100)
}

func TestJobPlayOfShortLists(t *testing.T) {
	list := []impl.Event{ev(5, 4, 7), ev(2, 1, 0), ev(2, 4, 3)}
	letters := "rscf"
	for n := range 7 {
		many := 1
		for range n {
			many *= len(letters)
		}
		for code := range many {
			var steps []int
			for rest := code; len(steps) < n; rest /= len(letters) {
				steps = append(steps, kinds(letters[rest%len(letters):])[0])
			}
			expectJob(t, "JobPlay", played(t, list, steps), jobSlowly(list, steps))
			expect(t, "JobFinish", impl.JobFinish(list, steps), []int{40007, 10000, 40010})
		}
	}
}

func TestJobPlayAtLimits(t *testing.T) {
	expectIs(t, "MaxKinds", impl.MaxKinds, 60)
	expect(t, "the kinds", kinds("rscf"), []int{1, 2, 3, 4})
	list := []impl.Event{ev(9, 2, 5), ev(3, 0, 0), ev(1, 2, 1), ev(9, 0, 7)}
	results := []int{20005, 0, 20006, 7}
	for _, c := range []struct {
		letters      string
		offset, next int
		last         shot
		pending      []shot
	}{
		{letters: "", next: 1},
		{letters: "cfcf", next: 1},
		{letters: "x", next: 1},
		{letters: "rrrrrrr", offset: 4, next: 1},
		{letters: "s", next: 2, pending: []shot{{1, 0}}},
		{letters: "sf", next: 2},
		{letters: "rrsrf", next: 2},
		{letters: "rrsrfc", next: 2},
		{letters: "rrsfrrrs", offset: 3, next: 3, pending: []shot{{2, 3}}},
		{letters: "sc", next: 2, last: shot{1, 0}},
		{letters: "rscf", offset: 1, next: 2, last: shot{1, 1}},
		{letters: "rsccc", offset: 1, next: 2, last: shot{1, 1}},
		{letters: "rscrsrfff", offset: 1, next: 3, last: shot{1, 1}},
		{letters: "rscrsrfc", offset: 1, next: 3, last: shot{1, 1}},
		{letters: "rscrsrfrrs", offset: 3, next: 4, last: shot{1, 1}, pending: []shot{{3, 3}}},
		{letters: "rsrsrscr", offset: 4, next: 4, last: shot{3, 3}},
		{letters: "rscrssr", offset: 3, next: 4, last: shot{1, 1}, pending: []shot{{2, 2}, {3, 2}}},
		{letters: "srsrsrsrs", offset: 4, next: 5, pending: []shot{{1, 0}, {2, 1}, {3, 2}, {4, 3}}},
		{letters: "scsrsrsrsrs", offset: 4, next: 6, last: shot{1, 0}, pending: []shot{{2, 0}, {3, 1}, {4, 2}, {5, 3}}},
		{letters: "sssssrrc", offset: 2, next: 5, last: shot{4, 0}},
		{letters: "sssssrrcsc", offset: 2, next: 6, last: shot{5, 2}},
	} {
		want := jobOf(list, c.offset, c.next, c.last, c.pending)
		expectJob(t, c.letters, played(t, list, kinds(c.letters)), want)
		expectJob(t, c.letters+", with steps of other kinds", played(t, list, slices.Concat([]int{0, 5, -1}, kinds(c.letters), extremes)), want)
		expect(t, c.letters+", at the end", impl.JobFinish(list, kinds(c.letters)), results)
	}
}

func TestJobsOfAsManyStepsAsThereMayBe(t *testing.T) {
	list := slices.Repeat([]impl.Event{ev(impl.MaxTime, impl.MaxKey, impl.MaxValue), ev(0, 0, 0)}, impl.MaxEvents/2)
	for _, letters := range []string{"s", "sc", "rrsc", "r", "rf", "x", "sf", "rscrsf"} {
		steps := kinds(letters)
		steps = slices.Repeat(steps, impl.MaxKinds)[:impl.MaxKinds]
		for _, list := range [][]impl.Event{list, nil, list[:1]} {
			expectJob(t, "JobPlay of MaxKinds steps", played(t, list, steps), jobSlowly(list, steps))
			expect(t, "JobFinish of MaxKinds steps", impl.JobFinish(list, steps), resultsSlowly(list))
			j, ok := impl.JobPlay(list, append(steps, 0))
			expectTrue(t, "there may be no more than MaxKinds steps", !ok)
			expectJob(t, "JobPlay of a step too many", j, impl.Job{})
			expectTrue(t, "JobFinish of a step too many is nil", impl.JobFinish(list, append(steps, 0)) == nil)
		}
	}
	j := played(t, nil, slices.Repeat(kinds("sc"), impl.MaxKinds/2))
	expectJob(t, "snapshots of no events", j, jobOf(nil, 0, 31, shot{30, 0}, nil))
	j = played(t, list, slices.Repeat(kinds("sf"), impl.MaxKinds/2))
	expectJob(t, "a job that fails after every snapshot", j, jobOf(list, 0, 31, shot{}, nil))
}

func TestJobsOfInvalidArguments(t *testing.T) {
	for _, bad := range badLists() {
		for _, letters := range []string{"", "r", "rrscf", "x"} {
			j, ok := impl.JobPlay(bad, kinds(letters))
			expectTrue(t, "invalid events are not read", !ok)
			expectJob(t, "JobPlay of invalid events", j, impl.Job{})
			expectTrue(t, "JobFinish of invalid events is nil", impl.JobFinish(bad, kinds(letters)) == nil)
		}
	}
	for _, n := range []int{impl.MaxKinds + 1, 1000} {
		for _, list := range [][]impl.Event{nil, {ev(1, 1, 1)}} {
			j, ok := impl.JobPlay(list, make([]int, n))
			expectTrue(t, "there are too many steps", !ok)
			expectJob(t, "JobPlay of too many steps", j, impl.Job{})
			expectTrue(t, "JobFinish of too many steps is nil", impl.JobFinish(list, make([]int, n)) == nil)
		}
	}
}

func TestP130WhatIsDoneIsRight(t *testing.T) {
	r := source(201)
	done := 0
	for range rounds * 5 {
		list := someEvents(r, impl.MaxEvents)
		j := played(t, list, someKinds(r, impl.MaxKinds))
		read := 0
		for _, x := range j.Saved {
			if x.Number == j.Last {
				read = x.Offset
			}
		}
		expect(t, "the results that are done", j.Sink.Done, impl.JobReference(list)[:read])
		done += amount(read > 0)
	}
	expectTrue(t, "some results are done", done > 100)
}

func TestP131StatesBelongToOffsets(t *testing.T) {
	r := source(202)
	saved := 0
	for range rounds * 5 {
		list := someEvents(r, impl.MaxEvents)
		j := played(t, list, someKinds(r, impl.MaxKinds))
		expect(t, "the state", j.State, impl.JobState(list, j.Offset))
		for _, x := range j.Saved {
			expect(t, "the state of a snapshot", x.State, impl.JobState(list, x.Offset))
			saved += amount(x.Offset > 0 && x.Offset < j.Offset)
		}
	}
	expectTrue(t, "some snapshots have read fewer events", saved > 100)
}

func TestP132EveryResultIsSomewhereOnce(t *testing.T) {
	r := source(203)
	everywhere := 0
	for range rounds * 5 {
		list := someEvents(r, impl.MaxEvents)
		j := played(t, list, someKinds(r, impl.MaxKinds))
		all := slices.Clone(j.Sink.Done)
		for _, b := range j.Sink.Pending {
			all = append(all, b.Results...)
		}
		everywhere += amount(len(j.Sink.Done) > 0 && len(all) > len(j.Sink.Done) && len(j.Sink.Open) > 0)
		expect(t, "all results", append(all, j.Sink.Open...), impl.JobReference(list)[:j.Offset])
	}
	expectTrue(t, "some results are done, pending and open", everywhere > 30)
}

func TestP133ResultsAreWrittenExactlyOnce(t *testing.T) {
	r := source(204)
	var full, failed int
	for range rounds * 5 {
		list, steps := someEvents(r, impl.MaxEvents), someKinds(r, impl.MaxKinds)
		results := impl.JobFinish(list, steps)
		expect(t, "JobFinish", results, resultsSlowly(list))
		expect(t, "JobFinish is JobReference", results, impl.JobReference(list))
		full += amount(len(jobSlowly(list, steps).Sink.Pending) == impl.MaxOpen)
		failed += amount(slices.Contains(steps, impl.JobFail))
	}
	expectTrue(t, "jobs fail, and some sinks are full", full > 100 && failed > 100)
}

func TestP134FailuresCannotBeSeen(t *testing.T) {
	r := source(205)
	for range rounds * 2 {
		list, steps := someEvents(r, impl.MaxEvents), someKinds(r, impl.MaxKinds-1)
		want := impl.JobFinish(list, steps)
		expect(t, "one failure more", impl.JobFinish(list, append(slices.Clone(steps), impl.JobFail)), want)
		at := r.IntN(len(steps) + 1)
		expect(t, "one failure more on the way", impl.JobFinish(list, slices.Insert(slices.Clone(steps), at, impl.JobFail)), want)
		expectIs(t, "the number of results", len(want), len(list))
	}
}

func TestJobsKeepArguments(t *testing.T) {
	r := source(206)
	for range rounds * 2 {
		list, steps := guarded(someEvents(r, impl.MaxEvents), ev(-7, -7, -7)), guarded(someKinds(r, impl.MaxKinds), -7)
		want := jobSlowly(list.list, steps.list)
		j := played(t, list.list, steps.list)
		expectApart(t, "the states of a job", append(savedStates(j), j.State), kv(-5, -5))
		expectSinkApart(t, "the results of a job", j.Sink)
		spoil(j.Saved, impl.Snapshot{Number: -5})
		spoil(impl.JobReference(list.list), -5)
		spoil(impl.JobState(list.list, len(list.list)), kv(-5, -5))
		spoil(impl.JobFinish(list.list, steps.list), -5)
		list.check(t, "a job")
		steps.check(t, "a job")
		expectJob(t, "JobPlay again", played(t, list.list, steps.list), want)
	}
}
