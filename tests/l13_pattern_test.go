package tests

import (
	"math/rand/v2"
	"slices"
	"testing"

	"loop.example/eventstreams/impl"
)

// one returns a step that takes one event with a value in a range.
func one(low int, high int) impl.Step {
	return impl.Step{Low: low, High: high}
}

// many returns a step that takes one or more events.
func many(low int, high int) impl.Step {
	return impl.Step{Low: low, High: high, Many: true}
}

// perhaps returns a step as an optional one.
func perhaps(s impl.Step) impl.Step {
	s.Optional = true
	return s
}

// pattern returns a pattern.
func pattern(within int, steps ...impl.Step) impl.Pattern {
	return impl.Pattern{Steps: steps, Within: within}
}

// partial returns a partial match.
func partial(start int, time int, mask int) impl.Partial {
	return impl.Partial{Start: start, Time: time, Mask: mask}
}

// someStep returns a valid step, often one for few values.
func someStep(r *rand.Rand) impl.Step {
	low := oneOf(r, 0, between(r, 0, 3), between(r, 0, 9), between(r, 0, impl.MaxValue))
	high := oneOf(r, low, min(low+between(r, 0, 5), impl.MaxValue), between(r, low, impl.MaxValue), impl.MaxValue)
	return impl.Step{Low: low, High: high, Many: r.IntN(2) == 0, Optional: r.IntN(2) == 0}
}

// somePattern returns a valid pattern.
func somePattern(r *rand.Rand) impl.Pattern {
	p := pattern(oneOf(r, 0, between(r, 0, 9), between(r, 0, 40), impl.MaxTime))
	for range between(r, 1, impl.MaxPattern) {
		p.Steps = append(p.Steps, someStep(r))
	}
	p.Steps[r.IntN(len(p.Steps))].Optional = false
	return p
}

// someMatter returns n valid events for a pattern: many of their values are those of its steps, in order, and in most calls their times do not fall.
func someMatter(r *rand.Rand, p impl.Pattern, n int) []impl.Event {
	list, noise := events(r, n), oneOf(r, 2, 5, 20)
	step, time, pace := 0, 0, oneOf(r, 0, 1, 3, 20)
	inTurn := r.IntN(5) > 0
	for i := range list {
		if r.IntN(noise) > 0 {
			list[i].Value = between(r, p.Steps[step].Low, p.Steps[step].High)
		}
		if !p.Steps[step].Many || r.IntN(2) == 0 {
			step = (step + 1) % len(p.Steps)
		}
		time += between(r, 0, pace)
		if inTurn {
			list[i].Time = min(time, impl.MaxTime)
		}
	}
	return list
}

// badPatterns returns patterns that are invalid, each for one reason.
func badPatterns() []impl.Pattern {
	s := one(1, 5)
	list := []impl.Pattern{{}, pattern(5), pattern(5, perhaps(s)), pattern(5, perhaps(s), perhaps(many(0, 9))), pattern(5, slices.Repeat([]impl.Step{perhaps(s)}, impl.MaxPattern)...)}
	list = append(list, pattern(5, slices.Repeat([]impl.Step{s}, impl.MaxPattern+1)...), pattern(5, append(slices.Repeat([]impl.Step{perhaps(s)}, 70), s)...))
	for _, within := range joined(extremes, []int{-1, impl.MaxTime + 1}) {
		list = append(list, pattern(within, s), pattern(within, s, s))
	}
	bad := []impl.Step{one(5, 4), one(-1, -1), one(-1, 5), one(0, impl.MaxValue+1), one(impl.MaxValue+1, impl.MaxValue+1), one(impl.MaxValue, 0), one(0, -1)}
	for _, x := range extremes {
		bad = append(bad, one(x, 5), one(5, x), one(x, x))
	}
	for _, x := range bad {
		list = append(list, pattern(5, x), pattern(5, x, s), pattern(5, s, perhaps(x)), pattern(5, s, s, impl.Step{Low: x.Low, High: x.High, Many: true}))
	}
	return list
}

// divided reports whether events can be divided into parts for steps.
func divided(steps []impl.Step, list []impl.Event) bool {
	if len(steps) == 0 {
		return len(list) == 0
	}
	s := steps[0]
	if s.Optional && divided(steps[1:], list) {
		return true
	}
	for i, e := range list {
		if e.Value < s.Low || e.Value > s.High || i > 0 && !s.Many {
			return false
		}
		if divided(steps[1:], list[i+1:]) {
			return true
		}
	}
	return false
}

// matchSlowly reports what MatchesAll should for valid arguments.
func matchSlowly(p impl.Pattern, list []impl.Event) bool {
	return divided(p.Steps, list) && list[len(list)-1].Time-list[0].Time <= p.Within
}

func TestValidPattern(t *testing.T) {
	expectIs(t, "MaxPattern", impl.MaxPattern, 5)
	s, n := one(1, 5), impl.MaxValue
	for _, p := range []impl.Pattern{
		pattern(0, s), pattern(impl.MaxTime, s), pattern(5, slices.Repeat([]impl.Step{s}, impl.MaxPattern)...), pattern(5, one(0, 0)), pattern(5, one(n, n)), pattern(5, one(0, n)),
		pattern(5, perhaps(s), s), pattern(5, s, perhaps(s)), pattern(5, perhaps(s), perhaps(s), perhaps(s), perhaps(s), many(3, 3)),
	} {
		expectTrue(t, "a pattern is valid", impl.ValidPattern(p))
	}
	for _, p := range badPatterns() {
		expectTrue(t, "a pattern is not valid", !impl.ValidPattern(p))
	}
	r := source(128)
	for range rounds {
		expectTrue(t, "a pattern is valid", impl.ValidPattern(somePattern(r)))
	}
}

func TestP78OptionalStepsCanBeAdded(t *testing.T) {
	r := source(129)
	var found, more int
	for range rounds * 3 {
		p := somePattern(r)
		if len(p.Steps) == impl.MaxPattern {
			continue
		}
		q, at := p, between(r, 0, len(p.Steps))
		q.Steps = slices.Insert(slices.Clone(p.Steps), at, perhaps(someStep(r)))
		expectTrue(t, "a pattern with one more optional step is valid", impl.ValidPattern(q))
		list := someMatter(r, p, between(r, 0, 12))
		before, after := impl.PatternMatches(p, list), impl.PatternMatches(q, list)
		for _, w := range before {
			expectTrue(t, "a match is one with an optional step", slices.Contains(after, w))
			expectTrue(t, "events match with an optional step", impl.MatchesAll(q, list[w.Start:w.End]))
		}
		found, more = found+len(before), more+len(after)-len(before)
		var other []impl.Event
		for _, e := range list {
			if s := q.Steps[at]; e.Value < s.Low || e.Value > s.High {
				other = append(other, e)
			}
		}
		expect(t, "the matches of events that an optional step does not take", impl.PatternMatches(q, other), impl.PatternMatches(p, other))
	}
	expectTrue(t, "there are matches, and more with an optional step", found > rounds && more > rounds)
}

func TestP92MatchesAreDivisionsIntoSteps(t *testing.T) {
	r := source(130)
	var yes, no, slow int
	for range rounds * 10 {
		p := somePattern(r)
		list := someMatter(r, p, between(r, 1, oneOf(r, 3, 10)))
		got, parts := impl.MatchesAll(p, list), divided(p.Steps, list)
		expectIs(t, "MatchesAll", got, matchSlowly(p, list))
		yes, no, slow = yes+amount(got), no+amount(!parts), slow+amount(parts && !got)
	}
	expectTrue(t, "events match, do not, and take too long", yes > 100 && no > 100 && slow > 100)
}

func TestMatchesAllWithSteps(t *testing.T) {
	a, b, c := one(1, 1), one(2, 2), one(7, 9)
	for _, x := range []struct {
		steps  []impl.Step
		values []int
		want   bool
	}{
		{[]impl.Step{a}, []int{1}, true}, {[]impl.Step{a}, nil, false}, {[]impl.Step{a}, []int{2}, false}, {[]impl.Step{a}, []int{1, 1}, false},
		{[]impl.Step{c}, []int{7}, true}, {[]impl.Step{c}, []int{9}, true}, {[]impl.Step{c}, []int{6}, false}, {[]impl.Step{c}, []int{10}, false},
		{[]impl.Step{many(1, 2)}, []int{1, 2, 1, 1}, true}, {[]impl.Step{many(1, 2)}, []int{1, 3, 1}, false}, {[]impl.Step{many(1, 2)}, nil, false},
		{[]impl.Step{a, perhaps(b), c}, []int{1, 2, 8}, true}, {[]impl.Step{a, perhaps(b), c}, []int{1, 8}, true}, {[]impl.Step{a, perhaps(b), c}, []int{1, 2, 2, 8}, false}, {[]impl.Step{a, perhaps(b), c}, []int{2, 8}, false},
		{[]impl.Step{a, perhaps(many(2, 2)), c}, []int{1, 2, 2, 8}, true}, {[]impl.Step{a, perhaps(many(2, 2)), c}, []int{1, 8}, true}, {[]impl.Step{a, perhaps(many(2, 2)), c}, []int{1, 2, 3, 8}, false},
		{[]impl.Step{perhaps(a), perhaps(b), c}, []int{7}, true}, {[]impl.Step{perhaps(a), perhaps(b), c}, []int{2, 7}, true}, {[]impl.Step{perhaps(a), perhaps(b), c}, []int{2, 1, 7}, false}, {[]impl.Step{perhaps(a), perhaps(b), c}, []int{1}, false}, {[]impl.Step{perhaps(a), perhaps(b), c}, nil, false},
		{[]impl.Step{c, perhaps(a), perhaps(b)}, []int{7}, true}, {[]impl.Step{c, perhaps(a), perhaps(b)}, []int{7, 2}, true}, {[]impl.Step{c, perhaps(a), perhaps(b)}, []int{7, 1, 2}, true}, {[]impl.Step{c, perhaps(a), perhaps(b)}, []int{7, 2, 1}, false},
		{[]impl.Step{many(0, 99), a, many(0, 99)}, []int{1, 1, 1}, true}, {[]impl.Step{many(0, 99), a, many(0, 99)}, []int{1, 5, 1}, false}, {[]impl.Step{many(0, 99), a, many(0, 99)}, []int{5, 5, 1, 5}, true},
		{[]impl.Step{a, a, a, a, a}, []int{1, 1, 1, 1, 1}, true}, {[]impl.Step{a, a, a, a, a}, []int{1, 1, 1, 1}, false}, {[]impl.Step{a, a, a, a, a}, []int{1, 1, 1, 1, 1, 1}, false},
		{[]impl.Step{one(0, 0), one(99, 99)}, []int{0, 99}, true}, {[]impl.Step{one(0, 0), one(99, 99)}, []int{99, 0}, false},
	} {
		var list []impl.Event
		for _, v := range x.values {
			list = append(list, ev(5, v%3, v))
		}
		expectIs(t, "MatchesAll", impl.MatchesAll(pattern(0, x.steps...), list), x.want)
	}
}

func TestMatchesAllAtLimits(t *testing.T) {
	n := impl.MaxTime
	for _, c := range []struct {
		within, first, last int
		want                bool
	}{{0, 5, 5, true}, {0, 5, 6, false}, {0, 6, 5, true}, {7, 5, 12, true}, {7, 5, 13, false}, {n, 0, n, true}, {n - 1, 0, n, false}, {0, n, 0, true}} {
		list := []impl.Event{ev(c.first, 0, 0), ev(n, 1, 50), ev(c.last, impl.MaxKey, impl.MaxValue)}
		expectIs(t, "MatchesAll", impl.MatchesAll(pattern(c.within, many(0, impl.MaxValue)), list), c.want)
	}
	full := slices.Repeat([]impl.Event{ev(9, 1, 5)}, impl.MaxEvents)
	p := pattern(0, slices.Repeat([]impl.Step{many(5, 5)}, impl.MaxPattern)...)
	expectTrue(t, "MaxEvents events match", impl.MatchesAll(p, full))
	full[impl.MaxEvents-1].Value = 6
	expectTrue(t, "MaxEvents events with another value do not match", !impl.MatchesAll(p, full))
}

func TestP79AllMatchesAreFound(t *testing.T) {
	r := source(131)
	var found, none int
	for range rounds * 2 {
		p := somePattern(r)
		list := someMatter(r, p, oneOf(r, 0, 1, 8, between(r, 0, 20), impl.MaxEvents))
		var want []impl.Window
		for start := range list {
			for end := start + 1; end <= len(list); end++ {
				if impl.MatchesAll(p, list[start:end]) {
					want = append(want, win(start, end))
				}
			}
		}
		expect(t, "PatternMatches", impl.PatternMatches(p, list), want)
		found, none = found+len(want), none+len(list)*(len(list)+1)/2-len(want)
	}
	expectTrue(t, "some ranges match, others do not", found > rounds && none > rounds)
}

func TestP80MoreTimeAllowsMoreMatches(t *testing.T) {
	r := source(132)
	var found, more int
	for range rounds * 3 {
		p := somePattern(r)
		list := someMatter(r, p, between(r, 0, impl.MaxEvents))
		q := p
		q.Within = oneOf(r, impl.MaxTime, between(r, p.Within, impl.MaxTime))
		before, after := impl.PatternMatches(p, list), impl.PatternMatches(q, list)
		for _, w := range before {
			expectTrue(t, "a match is one with more time", slices.Contains(after, w))
		}
		for _, w := range after {
			expectIs(t, "whether a match is one with less time", slices.Contains(before, w), list[w.End-1].Time-list[w.Start].Time <= p.Within)
		}
		found, more = found+len(before), more+len(after)-len(before)
	}
	expectTrue(t, "there are matches, and more with more time", found > rounds && more > rounds)
}

func TestPatternMatchesAtLimits(t *testing.T) {
	n := impl.MaxEvents
	full := slices.Repeat([]impl.Event{ev(impl.MaxTime, 1, 5)}, n)
	p := pattern(0, many(5, 5))
	expectIs(t, "the number of matches of MaxEvents events", len(impl.PatternMatches(p, full)), n*(n+1)/2)
	expect(t, "SkipMatches of MaxEvents events", impl.SkipMatches(p, full), []impl.Window{win(0, n)})
	expectIs(t, "the number of single matches", len(impl.SkipMatches(pattern(0, one(5, 5)), full)), n)
	five := pattern(0, slices.Repeat([]impl.Step{one(5, 5)}, impl.MaxPattern)...)
	expect(t, "SkipMatches of five steps", impl.SkipMatches(five, full[:14]), []impl.Window{win(0, 5), win(5, 10)})
	expect(t, "PatternMatches of five steps", impl.PatternMatches(five, full[:7]), []impl.Window{win(0, 5), win(1, 6), win(2, 7)})
	expectTrue(t, "no events match", len(impl.PatternMatches(p, nil)) == 0 && len(impl.SkipMatches(p, nil)) == 0 && !impl.MatchesAll(p, nil))
}

// skipSlowly returns the matches that SkipMatches should have.
func skipSlowly(all []impl.Window) []impl.Window {
	var taken []impl.Window
	for from := 0; ; {
		best := win(-1, 0)
		for _, w := range all {
			if w.Start >= from && (best.Start < 0 || w.Start < best.Start || w.Start == best.Start && w.End > best.End) {
				best = w
			}
		}
		if best.Start < 0 {
			return taken
		}
		taken, from = append(taken, best), best.End
	}
}

func TestP81MatchesWithoutCommonEventsAreMatches(t *testing.T) {
	r := source(133)
	var found, left int
	for range rounds * 3 {
		p := somePattern(r)
		list := someMatter(r, p, between(r, 0, impl.MaxEvents))
		all, taken := impl.PatternMatches(p, list), impl.SkipMatches(p, list)
		expect(t, "SkipMatches", taken, skipSlowly(all))
		for i, w := range taken {
			expectTrue(t, "one of SkipMatches is a match", slices.Contains(all, w))
			expectTrue(t, "matches have no common events", i == 0 || w.Start >= taken[i-1].End)
		}
		expectIs(t, "whether there are matches", len(taken) > 0, len(all) > 0)
		found, left = found+len(taken), left+len(all)-len(taken)
	}
	expectTrue(t, "matches are taken and left out", found > rounds && left > rounds)
}

func TestP82TheLongestMatchIsTaken(t *testing.T) {
	r := source(134)
	shorter := 0
	for range rounds * 3 {
		p := somePattern(r)
		list := someMatter(r, p, between(r, 0, impl.MaxEvents))
		all, taken := impl.PatternMatches(p, list), impl.SkipMatches(p, list)
		for i, w := range taken {
			for _, m := range all {
				expectTrue(t, "no match that begins there ends behind it", m.Start != w.Start || m.End <= w.End)
				expectTrue(t, "no match begins before the first one", i > 0 || m.Start >= w.Start)
				shorter += amount(m.Start == w.Start && m.End < w.End)
			}
		}
	}
	expectTrue(t, "there are some shorter matches", shorter > rounds)
}

// feed performs FeedPattern for all events, and returns all partial matches after the last one and all matches.
func feed(t *testing.T, p impl.Pattern, list []impl.Event) ([]impl.Partial, []impl.Window) {
	t.Helper()
	var open []impl.Partial
	var all []impl.Window
	for i, e := range list {
		kept, found, ok := impl.FeedPattern(p, open, i, e)
		expectTrue(t, "the event is handled", ok)
		for j, w := range found {
			expectTrue(t, "a match ends with the event", w.End == i+1)
			expectTrue(t, "matches of one event ascend", j == 0 || found[j-1].Start < w.Start)
		}
		open, all = kept, append(all, found...)
	}
	return open, all
}

func TestP83MatchesAreFoundAsEventsCome(t *testing.T) {
	r := source(135)
	var found, open int
	for range rounds * 3 {
		p := somePattern(r)
		list := someMatter(r, p, oneOf(r, between(r, 0, 12), impl.MaxEvents))
		kept, all := feed(t, p, list)
		matches := impl.PatternMatches(p, list)
		expectIs(t, "the number of matches", len(all), len(matches))
		for _, w := range all {
			expectTrue(t, "what FeedPattern finds is a match", slices.Contains(matches, w))
		}
		found, open = found+len(all), open+len(kept)
	}
	expectTrue(t, "there are matches and partial matches", found > rounds && open > rounds)
}

// maskOf returns the mask of a partial match of events.
func maskOf(p impl.Pattern, list []impl.Event) int {
	mask := 0
	for k := range len(p.Steps) + 1 {
		if divided(p.Steps[:k], list) {
			mask += 1 << k
		}
	}
	return mask
}

func TestPartialMatchesAreDivisionsIntoFirstSteps(t *testing.T) {
	r := source(136)
	var some, none int
	for range rounds * 3 {
		p := somePattern(r)
		list := someMatter(r, p, between(r, 1, 12))
		kept, _ := feed(t, p, list)
		var want []impl.Partial
		for start, e := range list {
			if mask := maskOf(p, list[start:]); mask != 0 {
				want = append(want, partial(start, e.Time, mask))
			}
		}
		expect(t, "the partial matches", kept, want)
		some, none = some+len(want), none+len(list)-len(want)
	}
	expectTrue(t, "partial matches go on and end", some > rounds && none > rounds)
}

// somePartials returns valid partial matches of a pattern with any masks.
func somePartials(r *rand.Rand, p impl.Pattern) []impl.Partial {
	list := make([]impl.Partial, oneOf(r, 0, 1, 3, between(r, 0, impl.MaxEvents-1), impl.MaxEvents-1))
	for i := range list {
		list[i] = partial(between(r, 0, impl.MaxEvents), between(r, 0, oneOf(r, 20, impl.MaxTime)), between(r, 1, 2<<len(p.Steps)-1))
	}
	return list
}

// maskAfter returns the mask after an event by the rule of the document.
func maskAfter(p impl.Pattern, mask int, value int) int {
	after := 0
	has := func(m int, k int) bool { return m/(1<<k)%2 == 1 }
	for k := 1; k <= len(p.Steps); k++ {
		s := p.Steps[k-1]
		fits := value >= s.Low && value <= s.High
		if has(mask, k-1) && fits || has(mask, k) && s.Many && fits || has(after, k-1) && s.Optional {
			after += 1 << k
		}
	}
	return after
}

func TestFeedPatternOfAnyPartialMatches(t *testing.T) {
	r := source(137)
	var some, none, found int
	for range rounds * 5 {
		p := somePattern(r)
		list, index := somePartials(r, p), between(r, 0, impl.MaxEvents-1)
		e := someMatter(r, p, 1)[0]
		if r.IntN(2) == 0 {
			e.Time = between(r, 0, impl.MaxTime)
		}
		var want []impl.Partial
		var matches []impl.Window
		add := func(start int, time int, mask int) {
			if mask != 0 {
				want = append(want, partial(start, time, mask))
			}
			if mask >= 1<<len(p.Steps) && e.Time-time <= p.Within {
				matches = append(matches, win(start, index+1))
			}
		}
		for _, m := range list {
			add(m.Start, m.Time, maskAfter(p, m.Mask, e.Value))
		}
		add(index, e.Time, maskOf(p, []impl.Event{e}))
		kept, got, ok := impl.FeedPattern(p, list, index, e)
		expectTrue(t, "the event is handled", ok)
		expect(t, "the partial matches", kept, want)
		expect(t, "the matches", got, matches)
		some, none, found = some+len(want), none+len(list)+1-len(want), found+len(matches)
	}
	expectTrue(t, "partial matches go on and end, and some are matches", some > rounds && none > rounds && found > rounds)
}

func TestFeedPatternAtLimits(t *testing.T) {
	p := pattern(5, one(1, 1), many(2, 2), perhaps(one(3, 3)))
	list := []impl.Partial{partial(0, 0, 15), partial(impl.MaxEvents, impl.MaxTime, 1), partial(7, 10, 2), partial(8, 11, 2), partial(9, 9, 8)}
	kept, found, ok := impl.FeedPattern(p, list, 0, ev(16, 3, 2))
	expectTrue(t, "the event is handled", ok)
	expect(t, "the partial matches", kept, []impl.Partial{partial(0, 0, 12), partial(7, 10, 12), partial(8, 11, 12)})
	expect(t, "the matches", found, []impl.Window{win(8, 1)})
	kept, found, ok = impl.FeedPattern(p, list, impl.MaxEvents-1, ev(0, 3, 1))
	expectTrue(t, "the event with the last index is handled", ok && len(found) == 0)
	expect(t, "the partial matches", kept, []impl.Partial{partial(0, 0, 2), partial(impl.MaxEvents, impl.MaxTime, 2), partial(impl.MaxEvents-1, 0, 2)})
	kept, found, ok = impl.FeedPattern(p, list, 5, ev(5, 3, 9))
	expectTrue(t, "an event that no step takes ends all partial matches", ok && len(kept) == 0 && len(found) == 0)
	most := slices.Repeat([]impl.Partial{partial(3, 3, 1)}, impl.MaxEvents-1)
	kept, _, ok = impl.FeedPattern(p, most, 5, ev(5, 3, 1))
	expectTrue(t, "the event is handled", ok)
	expectIs(t, "the number of partial matches", len(kept), impl.MaxEvents)
	loose := pattern(0, slices.Repeat([]impl.Step{perhaps(many(0, 0))}, impl.MaxPattern-1)...)
	loose.Steps = append(loose.Steps, many(0, impl.MaxValue))
	kept, found, _ = impl.FeedPattern(loose, []impl.Partial{partial(0, impl.MaxTime, 63), partial(1, 5, 32), partial(2, 4, 16), partial(3, 0, 1)}, 9, ev(4, 0, 1))
	expect(t, "the partial matches", kept, []impl.Partial{partial(0, impl.MaxTime, 32), partial(1, 5, 32), partial(2, 4, 32), partial(9, 4, 32)})
	expect(t, "the matches", found, []impl.Window{win(0, 10), win(1, 10), win(2, 10), win(9, 10)})
}

func TestFunctionsOfInvalidPatterns(t *testing.T) {
	good := []impl.Event{ev(5, 5, 5), ev(5, 5, 5)}
	for _, bad := range badPatterns() {
		for _, list := range [][]impl.Event{good, good[:1], nil} {
			expectTrue(t, "nothing matches an invalid pattern", !impl.MatchesAll(bad, list) && impl.PatternMatches(bad, list) == nil && impl.SkipMatches(bad, list) == nil)
		}
		kept, found, ok := impl.FeedPattern(bad, nil, 0, good[0])
		expectTrue(t, "an invalid pattern takes no event", kept == nil && found == nil && !ok)
	}
	all := pattern(impl.MaxTime, many(0, impl.MaxValue))
	for _, bad := range badLists() {
		expectTrue(t, "invalid events do not match", !impl.MatchesAll(all, bad) && impl.PatternMatches(all, bad) == nil && impl.SkipMatches(all, bad) == nil)
	}
}

func TestFeedPatternOfInvalidArguments(t *testing.T) {
	p := pattern(5, one(0, impl.MaxValue), many(0, impl.MaxValue))
	open := []impl.Partial{partial(3, 3, 7)}
	refused := func(what string, list []impl.Partial, index int, e impl.Event) {
		t.Helper()
		kept, found, ok := impl.FeedPattern(p, list, index, e)
		expectTrue(t, what, kept == nil && found == nil && !ok)
	}
	for _, list := range [][]impl.Partial{nil, open} {
		for _, index := range joined(extremes, []int{-1, impl.MaxEvents, impl.MaxEvents + 1}) {
			refused("an invalid index is refused", list, index, ev(5, 5, 5))
		}
		for _, e := range badEvents() {
			refused("an invalid event is refused", list, 0, e)
		}
	}
	bad := []impl.Partial{{}, partial(3, 3, 0), partial(3, 3, -1), partial(3, 3, 8), partial(-1, 3, 1), partial(impl.MaxEvents+1, 3, 1), partial(3, -1, 1), partial(3, impl.MaxTime+1, 1)}
	for _, x := range extremes {
		bad = append(bad, partial(x, 3, 1), partial(3, x, 1), partial(3, 3, x))
	}
	for _, m := range bad {
		refused("an invalid partial match is refused", []impl.Partial{m}, 5, ev(5, 5, 5))
		refused("an invalid partial match is refused", joined(open, []impl.Partial{m}), 5, ev(5, 5, 5))
	}
	for _, n := range []int{impl.MaxEvents, impl.MaxEvents + 1, 500} {
		refused("too many partial matches are refused", slices.Repeat(open, n), 5, ev(5, 5, 5))
	}
}

func TestPatternsKeepArguments(t *testing.T) {
	r := source(138)
	bad := win(-5, -5)
	for range rounds * 2 {
		p := somePattern(r)
		steps := guarded(p.Steps, one(77, 88))
		p.Steps = steps.list
		list := guarded(someMatter(r, p, between(r, 1, impl.MaxEvents)), ev(77, 7, 77))
		open := guarded(somePartials(r, p), partial(7, 77, 1))
		impl.ValidPattern(p)
		impl.MatchesAll(p, list.list)
		spoil(impl.PatternMatches(p, list.list), bad)
		spoil(impl.SkipMatches(p, list.list), bad)
		kept, found, _ := impl.FeedPattern(p, open.list, 5, list.list[0])
		spoil(found, bad)
		spoil(kept, partial(-5, -5, -5))
		steps.check(t, "a function of a pattern")
		list.check(t, "a function of a pattern and events")
		open.check(t, "FeedPattern")
	}
}
