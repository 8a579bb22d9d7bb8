package impl

// Mark is a generator of watermarks.
type Mark struct {
	Bound   int
	Highest int
}

// noTime stands for no event in a generator, and is the watermark before all times.
const noTime = -1

// SeeTime returns a generator that has seen an event.
func SeeTime(m Mark, time int) (Mark, bool) {
	if !m.valid() || !inRange(time, 0, MaxTime) {
		return Mark{}, false
	}
	return m.see(time), true
}

// MarkTime returns the watermark of a generator.
func MarkTime(m Mark) int {
	if !m.valid() {
		return -2
	}
	return m.watermark()
}

// IsLate reports whether an event is late at a watermark.
func IsLate(e Event, mark int) bool {
	return ValidEvent(e) && validMark(mark) && e.Time <= mark
}

// MarksOf returns the watermark after each event.
func MarksOf(list []Event, bound int) []int {
	m := Mark{Bound: bound, Highest: noTime}
	if !validEvents(list) || !m.valid() {
		return nil
	}
	marks := make([]int, 0, len(list))
	for _, e := range list {
		m = m.see(e.Time)
		marks = append(marks, m.watermark())
	}
	return marks
}

// LateEvents returns the indices of the late events.
func LateEvents(list []Event, bound int) []int {
	var late []int
	before := noTime
	for i, mark := range MarksOf(list, bound) {
		if IsLate(list[i], before) {
			late = append(late, i)
		}
		before = mark
	}
	return late
}

// validMark reports whether a watermark is one that a generator may tell.
func validMark(mark int) bool {
	return inRange(mark, noTime, MaxTime)
}

func (m Mark) valid() bool {
	return inRange(m.Bound, 0, MaxTime) && inRange(m.Highest, noTime, MaxTime)
}

// see returns a valid generator after an event with a valid time.
func (m Mark) see(time int) Mark {
	m.Highest = max(m.Highest, time)
	return m
}

// watermark returns the watermark of a valid generator.
func (m Mark) watermark() int {
	return max(m.Highest-m.Bound-1, noTime)
}
