package impl

import "slices"

// MaxClock is the largest processing time.
const MaxClock = 9999

// Input is an input with its watermark and the time at which it was last active.
type Input struct {
	Mark int
	Seen int
}

// IdleInputs returns the inputs that are idle.
func IdleInputs(list []Input, now int, idle int) []int {
	if !validWait(list, now, idle) {
		return nil
	}
	return indicesOf(list, func(in Input) bool { return in.idleAt(now, idle) })
}

// MergeMarks returns the watermark of inputs.
func MergeMarks(list []Input, now int, idle int) int {
	if !validWait(list, now, idle) {
		return -2
	}
	active := slices.DeleteFunc(slices.Clone(list), func(in Input) bool {
		return in.idleAt(now, idle)
	})
	if len(active) == 0 {
		return foldMarks(list, func(a int, b int) int { return max(a, b) })
	}
	return foldMarks(active, func(a int, b int) int { return min(a, b) })
}

// UpdateInput returns inputs after one has told a watermark.
func UpdateInput(list []Input, i int, mark int, now int) ([]Input, bool) {
	if !validInputs(list) || !inRange(i, 0, len(list)-1) || !validMark(mark) || !validClock(now) {
		return nil, false
	}
	updated := slices.Clone(list)
	updated[i] = updated[i].tell(mark, now)
	return updated, true
}

// NextMark returns the watermark that follows an old one.
func NextMark(old int, list []Input, now int, idle int) int {
	if !validMark(old) || !validWait(list, now, idle) {
		return -2
	}
	return max(old, MergeMarks(list, now, idle))
}

// foldMarks combines the watermarks of at least one input, from the first one on.
func foldMarks(list []Input, combine func(int, int) int) int {
	mark := list[0].Mark
	for _, in := range list[1:] {
		mark = combine(mark, in.Mark)
	}
	return mark
}

// validClock reports whether a number is a processing time.
func validClock(now int) bool {
	return inRange(now, 0, MaxClock)
}

func validInputs(list []Input) bool {
	return inRange(len(list), 1, MaxParts) && allOf(list, Input.valid)
}

// validWait reports whether inputs, a time and a limit for idle inputs are valid.
func validWait(list []Input, now int, idle int) bool {
	return validInputs(list) && validClock(now) && validClock(idle)
}

func (in Input) valid() bool {
	return validMark(in.Mark) && validClock(in.Seen)
}

// idleAt reports whether nothing has come for longer than the limit.
func (in Input) idleAt(now int, idle int) bool {
	return now-in.Seen > idle
}

// tell returns an input that has told a watermark at a time.
func (in Input) tell(mark int, now int) Input {
	return Input{Mark: max(in.Mark, mark), Seen: max(in.Seen, now)}
}
