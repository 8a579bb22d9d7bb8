package impl

import "slices"

// MaxParts is the largest number of partitions.
const MaxParts = 4

// Log is a log with partitions.
type Log struct {
	Parts [][]Event
}

// LogNew returns a log with empty partitions.
func LogNew(parts int) Log {
	if !inRange(parts, 1, MaxParts) {
		return Log{}
	}
	return Log{Parts: make([][]Event, parts)}
}

// PartOf returns the partition of a key.
func PartOf(key int, parts int) int {
	if !inRange(key, 0, MaxKey) || !inRange(parts, 1, MaxParts) {
		return -1
	}
	return (7*key + 3) % parts
}

// AppendLog appends an event to the partition of its key.
func AppendLog(l Log, e Event) (Log, bool) {
	if !l.valid() || !ValidEvent(e) {
		return Log{}, false
	}
	grown := l.clone()
	part := PartOf(e.Key, len(l.Parts))
	if len(l.Parts[part]) == MaxEvents {
		return grown, false
	}
	grown.Parts[part] = append(grown.Parts[part], e)
	return grown, true
}

// ReadLog reads events from offsets on.
func ReadLog(l Log, offsets []int, many int) ([]Event, []int, bool) {
	if !l.hasOffsets(offsets) || !inRange(many, 0, MaxEvents) {
		return nil, nil, false
	}
	c := cursor{parts: l.Parts, offsets: slices.Clone(offsets)}
	events := c.read(many)
	return events, c.offsets, true
}

// LagOf returns the number of events that were not read.
func LagOf(l Log, offsets []int) int {
	if !l.hasOffsets(offsets) {
		return -1
	}
	c := cursor{parts: l.Parts, offsets: offsets}
	return c.lag()
}

// valid does not ask whether events are in the partitions of their keys: the document allows any.
func (l Log) valid() bool {
	return inRange(len(l.Parts), 1, MaxParts) && allOf(l.Parts, validEvents)
}

// clone returns the same log in new memory.
func (l Log) clone() Log {
	return Log{Parts: cloneLists(l.Parts)}
}

// cloneLists returns the same lists in new memory.
func cloneLists[T any](lists [][]T) [][]T {
	clones := make([][]T, len(lists))
	for i, list := range lists {
		clones[i] = slices.Clone(list)
	}
	return clones
}

// hasOffsets reports whether a log is valid and offsets are valid for it.
func (l Log) hasOffsets(offsets []int) bool {
	if !l.valid() || len(offsets) != len(l.Parts) {
		return false
	}
	for i, offset := range offsets {
		if !inRange(offset, 0, len(l.Parts[i])) {
			return false
		}
	}
	return true
}

// cursor is a place in a valid log; reading moves its offsets.
type cursor struct {
	parts   [][]Event
	offsets []int
}

// lag returns the number of events that are still to be read.
func (c *cursor) lag() int {
	n := 0
	for i, part := range c.parts {
		n += len(part) - c.offsets[i]
	}
	return n
}

// next reads the next event of a partition, if there is one.
func (c *cursor) next(part int) (Event, bool) {
	offset := c.offsets[part]
	if offset == len(c.parts[part]) {
		return Event{}, false
	}
	c.offsets[part]++
	return c.parts[part][offset], true
}

// read reads at most many events, in rounds with one event of each partition.
func (c *cursor) read(many int) []Event {
	many = min(many, c.lag())
	events := make([]Event, 0, many)
	for part := 0; len(events) < many; part = (part + 1) % len(c.parts) {
		if e, ok := c.next(part); ok {
			events = append(events, e)
		}
	}
	return events
}
