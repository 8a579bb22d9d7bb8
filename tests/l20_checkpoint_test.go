package tests

import (
	"math/rand/v2"
	"slices"
	"testing"

	"loop.example/eventstreams/impl"
)

// open returns an open checkpoint that some of n tasks have acknowledged.
func open(number int, n int, done ...int) impl.Checkpoint {
	x := impl.Checkpoint{Number: number, Acks: make([]bool, n)}
	for _, task := range done {
		x.Acks[task] = true
	}
	return x
}

// coordinator returns a coordinator.
func coordinator(tasks int, next int, last int, list ...impl.Checkpoint) impl.Coordinator {
	return impl.Coordinator{Tasks: tasks, Next: next, Last: last, Open: list}
}

// copyOfCoordinator returns a coordinator in new memory.
func copyOfCoordinator(c impl.Coordinator) impl.Coordinator {
	list := c.Open
	c.Open = nil
	for _, x := range list {
		c.Open = append(c.Open, impl.Checkpoint{Number: x.Number, Acks: slices.Clone(x.Acks)})
	}
	return c
}

// someAcks returns acknowledgements of n tasks, often all but one.
func someAcks(r *rand.Rand, n int) []bool {
	acks, many := make([]bool, n), oneOf(r, 0, 1, 2, 2)
	for task := range acks {
		acks[task] = r.IntN(2) < many
	}
	acks[r.IntN(n)] = false
	return acks
}

// someCoordinator returns a valid coordinator, often with MaxOpen checkpoints or with the last number.
func someCoordinator(r *rand.Rand) impl.Coordinator {
	n := mostly(r, between(r, 1, 3), between(r, 1, impl.MaxTasks))
	next := oneOf(r, 1, 2, between(r, 1, 12), between(r, 1, impl.MaxCheckpoint+1), impl.MaxCheckpoint+1)
	c := impl.Coordinator{Tasks: n, Next: next, Last: oneOf(r, 0, max(0, next-6), between(r, 0, next-1))}
	wanted := oneOf(r, 0, 1, 2, impl.MaxOpen, impl.MaxOpen)
	for number := next - 1; number > c.Last && len(c.Open) < wanted; number-- {
		if r.IntN(3) > 0 {
			c.Open = append(c.Open, impl.Checkpoint{Number: number, Acks: someAcks(r, n)})
		}
	}
	slices.Reverse(c.Open)
	return c
}

// goodCoordinator reports whether a coordinator is valid.
func goodCoordinator(c impl.Coordinator) bool {
	if c.Tasks < 1 || c.Tasks > impl.MaxTasks || c.Next < 1 || c.Next > impl.MaxCheckpoint+1 || c.Last < 0 || c.Last >= c.Next || len(c.Open) > impl.MaxOpen {
		return false
	}
	before := c.Last
	for _, x := range c.Open {
		if x.Number <= before || x.Number >= c.Next || len(x.Acks) != c.Tasks || !slices.Contains(x.Acks, false) {
			return false
		}
		before = x.Number
	}
	return true
}

// badCoordinators returns coordinators each of which is invalid for one reason.
func badCoordinators() []impl.Coordinator {
	list := []impl.Coordinator{
		{}, coordinator(0, 1, 0), coordinator(impl.MaxTasks+1, 1, 0), coordinator(-1, 1, 0), coordinator(impl.MaxTasks+1, 2, 0, open(1, impl.MaxTasks+1)),
		coordinator(2, 0, 0), coordinator(2, 0, -1), coordinator(2, -1, 0), coordinator(2, impl.MaxCheckpoint+2, 0), coordinator(2, impl.MaxCheckpoint+2, 0, open(5, 2)),
		coordinator(2, 1, -1), coordinator(2, 1, 1), coordinator(2, 5, 5), coordinator(2, 5, 6), coordinator(2, 5, -1, open(3, 2)),
		coordinator(2, 9, 0, open(1, 2), open(2, 2), open(3, 2), open(4, 2), open(5, 2)), coordinator(2, 9, 0, slices.Repeat([]impl.Checkpoint{open(1, 2)}, 300)...),
		coordinator(2, 9, 0, open(2, 2), open(1, 2)), coordinator(2, 9, 0, open(2, 2), open(2, 2)), coordinator(2, 9, 0, open(1, 2), open(3, 2), open(6, 2), open(5, 2)),
		coordinator(2, 9, 4, open(4, 2)), coordinator(2, 9, 4, open(3, 2), open(6, 2)), coordinator(2, 9, 0, open(0, 2)), coordinator(2, 9, 0, open(-1, 2)),
		coordinator(2, 9, 0, open(9, 2)), coordinator(2, 9, 0, open(8, 2), open(10, 2)), coordinator(2, 1, 0, open(1, 2)),
		coordinator(2, 9, 0, open(5, 0)), coordinator(2, 9, 0, open(5, 1)), coordinator(2, 9, 0, open(5, 3)), coordinator(2, 9, 0, open(5, 2), open(6, 3)), coordinator(3, 9, 0, open(5, 2), open(6, 3)),
		coordinator(2, 9, 0, open(5, 2, 0, 1)), coordinator(1, 9, 0, open(5, 1, 0)), coordinator(2, 9, 0, open(5, 2, 0), open(6, 2, 1), open(7, 2, 1, 0)),
		coordinator(2, 9, 0, open(5, 1000)),
	}
	for _, x := range extremes {
		list = append(list, coordinator(x, 1, 0), coordinator(2, x, 0), coordinator(2, 5, x), coordinator(2, 5, 0, open(x, 2)), coordinator(2, 5, x, open(x, 2)))
	}
	return list
}

// expectCoordinator fails the test if a coordinator is not as expected.
func expectCoordinator(t *testing.T, what string, got impl.Coordinator, want impl.Coordinator) {
	t.Helper()
	expectIs(t, what+", its tasks", got.Tasks, want.Tasks)
	expectIs(t, what+", its next number", got.Next, want.Next)
	expectIs(t, what+", its last number", got.Last, want.Last)
	expect(t, what+", its open checkpoints", numbersOf(got), numbersOf(want))
	expectLists(t, what+", its acknowledgements", acksOf(got), acksOf(want))
}

// numbersOf returns the numbers of the open checkpoints.
func numbersOf(c impl.Coordinator) []int {
	var numbers []int
	for _, x := range c.Open {
		numbers = append(numbers, x.Number)
	}
	return numbers
}

// acksOf returns the acknowledgements of the open checkpoints.
func acksOf(c impl.Coordinator) [][]bool {
	var acks [][]bool
	for _, x := range c.Open {
		acks = append(acks, x.Acks)
	}
	return acks
}

// ackSlowly returns what AckCheckpoint should for a valid coordinator and one of its tasks.
func ackSlowly(before impl.Coordinator, number int, task int) (impl.Coordinator, bool, bool) {
	c := copyOfCoordinator(before)
	at := slices.Index(numbersOf(c), number)
	if at < 0 || c.Open[at].Acks[task] {
		return c, false, false
	}
	c.Open[at].Acks[task] = true
	for _, done := range c.Open[at].Acks {
		if !done {
			return c, false, true
		}
	}
	c.Last, c.Open = number, c.Open[at+1:]
	return c, true, true
}

// expectAck fails the test if AckCheckpoint of a valid coordinator and one of its tasks does not return what it should. It returns the coordinator, whether the checkpoint is complete, and whether it succeeds.
func expectAck(t *testing.T, c impl.Coordinator, number int, task int) (impl.Coordinator, bool, bool) {
	t.Helper()
	next, complete, ok := impl.AckCheckpoint(c, number, task)
	want, done, can := ackSlowly(c, number, task)
	expectCoordinator(t, "AckCheckpoint", next, want)
	expectIs(t, "whether the checkpoint is complete", complete, done)
	expectIs(t, "whether a task can acknowledge", ok, can)
	return next, complete, ok
}

// someNumber returns a number, mostly that of an open checkpoint if there is one.
func someNumber(r *rand.Rand, c impl.Coordinator) int {
	if len(c.Open) > 0 && r.IntN(4) > 0 {
		return c.Open[r.IntN(len(c.Open))].Number
	}
	return oneOf(r, c.Last, c.Next, between(r, -1, impl.MaxCheckpoint+1))
}

// begun fails the test if there is no room for a new checkpoint, and returns a coordinator with it, and its number.
func begun(t *testing.T, c impl.Coordinator) (impl.Coordinator, int) {
	t.Helper()
	next, number, ok := impl.BeginCheckpoint(c)
	expectTrue(t, "a checkpoint can begin", ok)
	return next, number
}

func TestP113NewCoordinatorsAreValid(t *testing.T) {
	expectIs(t, "MaxOpen", impl.MaxOpen, 4)
	for n := 1; n <= impl.MaxTasks; n++ {
		c := impl.CoordinatorNew(n)
		expectCoordinator(t, "CoordinatorNew", c, coordinator(n, 1, 0))
		expectTrue(t, "a new coordinator is valid", impl.ValidCoordinator(c))
		next, number := begun(t, c)
		expectIs(t, "the number of the first checkpoint", number, 1)
		expectCoordinator(t, "the first checkpoint", next, coordinator(n, 2, 0, open(1, n)))
	}
	for _, n := range badTasks() {
		expectCoordinator(t, "CoordinatorNew of an invalid number", impl.CoordinatorNew(n), impl.Coordinator{})
	}
}

func TestValidCoordinator(t *testing.T) {
	r := source(179)
	for range rounds * 3 {
		c := someCoordinator(r)
		expectTrue(t, "a coordinator is valid", impl.ValidCoordinator(c))
		switch x := oneOf(r, -1, 0, 1, 2); r.IntN(4) {
		case 0:
			c.Last += x
		case 1:
			c.Next += x
		case 2:
			c.Tasks += x
		default:
			if len(c.Open) > 0 {
				c.Open[r.IntN(len(c.Open))].Number += x
			}
		}
		expectIs(t, "whether a coordinator with another number is valid", impl.ValidCoordinator(c), goodCoordinator(c))
	}
	for _, c := range badCoordinators() {
		expectTrue(t, "a coordinator is invalid", !impl.ValidCoordinator(c) && !goodCoordinator(c))
	}
}

func TestValidCoordinatorAtLimits(t *testing.T) {
	for _, c := range []impl.Coordinator{
		coordinator(1, 1, 0), coordinator(impl.MaxTasks, impl.MaxCheckpoint+1, 0), coordinator(2, impl.MaxCheckpoint+1, impl.MaxCheckpoint), coordinator(2, 2, 1),
		coordinator(1, 2, 0, open(1, 1)), coordinator(2, impl.MaxCheckpoint+1, impl.MaxCheckpoint-1, open(impl.MaxCheckpoint, 2, 1)),
		coordinator(2, 9, 4, open(5, 2), open(6, 2, 0), open(7, 2, 1), open(8, 2)), coordinator(2, 90, 4, open(5, 2), open(89, 2, 0)),
		coordinator(impl.MaxTasks, 3, 0, open(1, impl.MaxTasks, 0, 1, 2, 3, 4, 5, 6), open(2, impl.MaxTasks, 1, 2, 3, 4, 5, 6, 7)),
	} {
		expectTrue(t, "a coordinator at the limits is valid", impl.ValidCoordinator(c))
	}
}

func TestP114CoordinatorsStayValid(t *testing.T) {
	r := source(180)
	var begins, completes, overtakes, aborts, fails int
	for range rounds / 2 {
		c := someCoordinator(r)
		for range 40 {
			what, before, ok, complete := r.IntN(8), c, false, false
			switch {
			case what < 2:
				c, _, ok = impl.BeginCheckpoint(c)
				begins += amount(ok)
			case what == 2:
				c, ok = impl.AbortCheckpoint(c, someNumber(r, c))
				aborts += amount(ok)
			default:
				c, complete, ok = expectAck(t, c, someNumber(r, c), r.IntN(c.Tasks))
				completes, overtakes = completes+amount(complete), overtakes+amount(len(before.Open)-len(c.Open) > 1)
			}
			expectTrue(t, "a coordinator stays valid", impl.ValidCoordinator(c) && goodCoordinator(c))
			if !ok {
				fails++
				expectCoordinator(t, "what fails changes nothing", c, before)
			}
		}
	}
	expectTrue(t, "checkpoints begin, are complete, overtake others, and are aborted, and steps fail", begins > rounds && completes > rounds && overtakes > 100 && aborts > 100 && fails > rounds)
}

func TestP115NumbersAreNotUsedTwice(t *testing.T) {
	r := source(181)
	var begins, full, last int
	for range rounds * 4 {
		c := someCoordinator(r)
		next, number, ok := impl.BeginCheckpoint(c)
		if len(c.Open) == impl.MaxOpen || c.Next == impl.MaxCheckpoint+1 {
			full, last = full+amount(len(c.Open) == impl.MaxOpen), last+amount(c.Next == impl.MaxCheckpoint+1)
			expectTrue(t, "no checkpoint can begin", !ok && number == 0)
			expectCoordinator(t, "BeginCheckpoint without room", next, c)
			continue
		}
		begins++
		expectTrue(t, "a checkpoint can begin", ok)
		expectIs(t, "the number of the checkpoint", number, c.Next)
		want := copyOfCoordinator(c)
		want.Next++
		want.Open = append(want.Open, open(number, c.Tasks))
		expectCoordinator(t, "BeginCheckpoint", next, want)
		after, ok := impl.AbortCheckpoint(next, number)
		expectTrue(t, "the checkpoint can be aborted", ok)
		expectLists(t, "the other open checkpoints", acksOf(after), acksOf(c))
		expect(t, "the numbers of the other open checkpoints", numbersOf(after), numbersOf(c))
		if after.Next <= impl.MaxCheckpoint {
			_, other := begun(t, after)
			expectTrue(t, "the number of an aborted checkpoint is not used again", other == number+1)
		}
	}
	expectTrue(t, "checkpoints begin, or there are too many, or no number is left", begins > rounds && full > 100 && last > 100)
}

func TestBeginCheckpointAtLimits(t *testing.T) {
	c := impl.CoordinatorNew(3)
	for i := 1; i <= impl.MaxOpen; i++ {
		c, _ = begun(t, c)
	}
	expectCoordinator(t, "MaxOpen checkpoints", c, coordinator(3, 5, 0, open(1, 3), open(2, 3), open(3, 3), open(4, 3)))
	same, number, ok := impl.BeginCheckpoint(c)
	expectTrue(t, "there are no more than MaxOpen checkpoints", number == 0 && !ok)
	expectCoordinator(t, "BeginCheckpoint of one too many", same, c)
	c, ok = impl.AbortCheckpoint(c, 2)
	expectTrue(t, "a checkpoint can be aborted", ok)
	c, number = begun(t, c)
	expectIs(t, "the number after an abortion", number, 5)
	expectCoordinator(t, "a checkpoint after an abortion", c, coordinator(3, 6, 0, open(1, 3), open(3, 3), open(4, 3), open(5, 3)))
	c = coordinator(2, impl.MaxCheckpoint, 7, open(9, 2, 1))
	c, number = begun(t, c)
	expectIs(t, "the greatest number", number, impl.MaxCheckpoint)
	same, number, ok = impl.BeginCheckpoint(c)
	expectTrue(t, "no number is left", number == 0 && !ok)
	expectCoordinator(t, "BeginCheckpoint without a number", same, coordinator(2, impl.MaxCheckpoint+1, 7, open(9, 2, 1), open(impl.MaxCheckpoint, 2)))
}

func TestP116CheckpointsAreCompleteWhenAllTasksSaySo(t *testing.T) {
	r := source(182)
	older := 0
	for range rounds * 4 {
		c := someCoordinator(r)
		if len(c.Open) == impl.MaxOpen || c.Next > impl.MaxCheckpoint {
			continue
		}
		older += amount(len(c.Open) > 1)
		c, number := begun(t, c)
		newer := c
		if len(c.Open) < impl.MaxOpen && c.Next <= impl.MaxCheckpoint && r.IntN(2) == 0 {
			newer, _ = begun(t, c)
		}
		behind := newer.Open[len(c.Open):]
		for i, task := range r.Perm(c.Tasks) {
			next, complete, ok := expectAck(t, newer, number, task)
			expectTrue(t, "a task can acknowledge", ok)
			expectIs(t, "the checkpoint is complete with the last task", complete, i == c.Tasks-1)
			newer = next
		}
		expectCoordinator(t, "a complete checkpoint", newer, coordinator(c.Tasks, newer.Next, number, behind...))
	}
	expectTrue(t, "checkpoints overtake others", older > 100)
}

func TestAckCheckpointAtLimits(t *testing.T) {
	c := coordinator(2, 9, 3, open(4, 2, 0), open(5, 2), open(7, 2, 1), open(8, 2, 1))
	next, complete, _ := expectAck(t, c, 7, 0)
	expectTrue(t, "a checkpoint that overtakes two is complete", complete)
	expectCoordinator(t, "newer checkpoints stay open", next, coordinator(2, 9, 7, open(8, 2, 1)))
	next, complete, _ = expectAck(t, c, 8, 0)
	expectTrue(t, "a checkpoint that overtakes three is complete", complete)
	expectCoordinator(t, "no checkpoint is open", next, coordinator(2, 9, 8))
	next, complete, _ = expectAck(t, c, 4, 1)
	expectTrue(t, "the oldest checkpoint is complete", complete)
	expectCoordinator(t, "newer checkpoints stay open", next, coordinator(2, 9, 4, open(5, 2), open(7, 2, 1), open(8, 2, 1)))
	for _, number := range joined(extremes, []int{-1, 0, 1, 3, 6, 9, impl.MaxCheckpoint, impl.MaxCheckpoint + 1}) {
		same, complete, ok := impl.AckCheckpoint(c, number, 0)
		expectTrue(t, "no such checkpoint is open", !complete && !ok)
		expectCoordinator(t, "AckCheckpoint of a checkpoint that is not open", same, c)
	}
	single, number := begun(t, impl.CoordinatorNew(1))
	single, complete, _ = expectAck(t, single, number, 0)
	expectTrue(t, "the only task completes a checkpoint", complete)
	expectCoordinator(t, "the checkpoint of one task", single, coordinator(1, 2, 1))
	_, complete, ok := expectAck(t, coordinator(3, impl.MaxCheckpoint+1, 0, open(impl.MaxCheckpoint, 3, 0, 2)), impl.MaxCheckpoint, 1)
	expectTrue(t, "the checkpoint with the greatest number is complete", complete && ok)
}

func TestP117TasksAcknowledgeOnce(t *testing.T) {
	r := source(183)
	var open, closed int
	for range rounds * 4 {
		c := someCoordinator(r)
		number, task := someNumber(r, c), r.IntN(c.Tasks)
		c, complete, ok := expectAck(t, c, number, task)
		open, closed = open+amount(ok && !complete), closed+amount(complete)
		again, complete, ok := impl.AckCheckpoint(c, number, task)
		expectTrue(t, "a task acknowledges once", !complete && !ok)
		expectCoordinator(t, "AckCheckpoint of the same task again", again, c)
	}
	expectTrue(t, "checkpoints stay open, and are complete", open > 100 && closed > 100)
}

func TestP118AbortedCheckpointsNeverComplete(t *testing.T) {
	r := source(184)
	var aborted, failed int
	for range rounds * 3 {
		c := someCoordinator(r)
		number := someNumber(r, c)
		at := slices.Index(numbersOf(c), number)
		want := copyOfCoordinator(c)
		if at >= 0 {
			want.Open = slices.Delete(want.Open, at, at+1)
		}
		next, ok := impl.AbortCheckpoint(c, number)
		expectIs(t, "whether a checkpoint can be aborted", ok, at >= 0)
		expectCoordinator(t, "AbortCheckpoint", next, want)
		aborted, failed = aborted+amount(ok), failed+amount(!ok)
		for task := range c.Tasks {
			same, complete, ok := impl.AckCheckpoint(next, number, task)
			expectTrue(t, "an aborted checkpoint is not complete", !complete && !ok)
			expectIs(t, "the last checkpoint after an abortion", same.Last, c.Last)
			expectCoordinator(t, "AckCheckpoint of an aborted checkpoint", same, next)
		}
		same, ok := impl.AbortCheckpoint(next, number)
		expectTrue(t, "a checkpoint is aborted once", !ok)
		expectCoordinator(t, "AbortCheckpoint again", same, next)
	}
	expectTrue(t, "some checkpoints are open, others are not", aborted > 100 && failed > 100)
}

func TestAbortCheckpointAtLimits(t *testing.T) {
	c := coordinator(2, 9, 3, open(4, 2, 0), open(5, 2), open(7, 2, 1), open(8, 2, 1))
	for _, number := range joined(extremes, []int{-1, 0, 3, 6, 9, impl.MaxCheckpoint + 1}) {
		same, ok := impl.AbortCheckpoint(c, number)
		expectTrue(t, "no such checkpoint is open", !ok)
		expectCoordinator(t, "AbortCheckpoint of a checkpoint that is not open", same, c)
	}
	next, ok := impl.AbortCheckpoint(c, 8)
	expectTrue(t, "the newest checkpoint can be aborted", ok)
	expectCoordinator(t, "AbortCheckpoint of the newest checkpoint", next, coordinator(2, 9, 3, open(4, 2, 0), open(5, 2), open(7, 2, 1)))
}

func TestFunctionsOfInvalidCoordinators(t *testing.T) {
	none := impl.Coordinator{}
	for _, bad := range badCoordinators() {
		next, number, ok := impl.BeginCheckpoint(bad)
		expectTrue(t, "no checkpoint of an invalid coordinator begins", number == 0 && !ok)
		expectCoordinator(t, "BeginCheckpoint of an invalid coordinator", next, none)
		for _, number := range joined(numbersOf(bad), []int{0, 1, 5}) {
			for _, task := range []int{-1, 0, 1, bad.Tasks, bad.Tasks - 1} {
				next, complete, ok := impl.AckCheckpoint(bad, number, task)
				expectTrue(t, "no checkpoint of an invalid coordinator is acknowledged", !complete && !ok)
				expectCoordinator(t, "AckCheckpoint of an invalid coordinator", next, none)
			}
			next, ok := impl.AbortCheckpoint(bad, number)
			expectTrue(t, "no checkpoint of an invalid coordinator is aborted", !ok)
			expectCoordinator(t, "AbortCheckpoint of an invalid coordinator", next, none)
		}
	}
	for _, c := range []impl.Coordinator{impl.CoordinatorNew(1), impl.CoordinatorNew(impl.MaxTasks), coordinator(2, 9, 0, open(5, 2, 1), open(6, 2, 0))} {
		for _, task := range joined(extremes, []int{-1, c.Tasks, c.Tasks + 1}) {
			for _, number := range []int{0, 1, 5, 6} {
				next, complete, ok := impl.AckCheckpoint(c, number, task)
				expectTrue(t, "there is no such task", !complete && !ok)
				expectCoordinator(t, "AckCheckpoint of an invalid task", next, none)
			}
		}
	}
}

func TestCoordinatorsKeepArguments(t *testing.T) {
	r := source(185)
	for range rounds * 2 {
		before := someCoordinator(r)
		acks := guardedLists(acksOf(before), true)
		c := copyOfCoordinator(before)
		for i := range c.Open {
			c.Open[i].Acks = acks.lists[i]
		}
		spare := open(77, 1)
		memory := append(c.Open, spare)
		c.Open = memory[:len(c.Open)]
		begun, _, _ := impl.BeginCheckpoint(c)
		acked, _, _ := impl.AckCheckpoint(c, someNumber(r, c), r.IntN(c.Tasks))
		aborted, _ := impl.AbortCheckpoint(c, someNumber(r, c))
		impl.ValidCoordinator(c)
		for _, next := range []impl.Coordinator{begun, acked, aborted} {
			expectApart(t, "a function of a coordinator", acksOf(next), true)
			spoil(next.Open, open(-5, 1))
		}
		acks.check(t, "a function of a coordinator")
		expectCoordinator(t, "an argument", c, before)
		expectIs(t, "what is behind an argument", memory[len(c.Open)].Number, spare.Number)
	}
}
