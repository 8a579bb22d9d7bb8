package tests

import (
	"math"
	"math/rand/v2"
	"slices"
	"testing"

	"loop.example/eventstreams/impl"
)

// item returns an item.
func item(kind int, number int) impl.Item {
	return impl.Item{Kind: kind, Number: number}
}

// data returns an item with data.
func data(n int) impl.Item {
	return item(impl.ItemData, n)
}

// barrier returns a barrier.
func barrier(id int) impl.Item {
	return item(impl.ItemBarrier, id)
}

// watermark returns an item with a watermark.
func watermark(mark int) impl.Item {
	return item(impl.ItemMark, mark)
}

// channel returns a channel.
func channel(buffers int, credits int, items ...impl.Item) impl.Channel {
	return impl.Channel{Buffers: buffers, Credits: credits, Items: items}
}

// someItem returns a valid item, sometimes with a number at a limit.
func someItem(r *rand.Rand) impl.Item {
	switch r.IntN(3) {
	case 0:
		return data(oneOf(r, 0, 1, between(r, 0, impl.MaxReach), impl.MaxReach))
	case 1:
		return watermark(oneOf(r, -1, 0, between(r, -1, impl.MaxReach), impl.MaxReach))
	}
	return barrier(oneOf(r, 1, 2, between(r, 1, impl.MaxCheckpoint), impl.MaxCheckpoint))
}

// someItems returns n valid items.
func someItems(r *rand.Rand, n int) []impl.Item {
	list := make([]impl.Item, n)
	for i := range list {
		list[i] = someItem(r)
	}
	return list
}

// someChannel returns a valid channel, often a full one or one without credits.
func someChannel(r *rand.Rand) impl.Channel {
	buffers := between(r, 1, impl.MaxBuffers)
	n := oneOf(r, 0, between(r, 0, buffers), buffers)
	credits := oneOf(r, 0, between(r, 0, buffers-n), buffers-n)
	return channel(buffers, credits, someItems(r, n)...)
}

// edgeItems returns valid items with numbers at the limits.
func edgeItems() []impl.Item {
	return []impl.Item{data(0), data(impl.MaxReach), watermark(-1), watermark(0), watermark(impl.MaxReach), barrier(1), barrier(impl.MaxCheckpoint)}
}

// badItems returns items each of which is invalid for one reason.
func badItems() []impl.Item {
	list := []impl.Item{
		data(-1), data(impl.MaxReach + 1), watermark(-2), watermark(impl.MaxReach + 1), barrier(0), barrier(-1), barrier(impl.MaxCheckpoint + 1),
		item(-1, 1), item(3, 1), item(4, 1),
	}
	for _, x := range extremes {
		list = append(list, data(x), watermark(x), barrier(x), item(x, 1))
	}
	return list
}

// badChannels returns channels each of which is invalid for one reason.
func badChannels() []impl.Channel {
	list := []impl.Channel{
		{}, channel(0, 0, data(1)), channel(-1, 0), channel(-1, -1), channel(impl.MaxBuffers+1, 0), channel(impl.MaxBuffers+1, 3, data(1)),
		channel(3, -1), channel(3, -1, data(1)), channel(3, 4), channel(3, 3, data(1)), channel(3, 1, data(1), data(2), data(3)),
		channel(3, 0, data(1), data(2), data(3), data(4)), channel(3, -1, data(1), data(2), data(3), data(4)), channel(1, 0, data(1), data(2)),
		channel(impl.MaxBuffers, 0, slices.Repeat([]impl.Item{data(1)}, impl.MaxBuffers+1)...), channel(3, 0, slices.Repeat([]impl.Item{data(1)}, 500)...),
		channel(3, math.MaxInt, data(1), data(2)), channel(3, math.MaxInt-1, data(1), data(2)),
	}
	for _, x := range extremes {
		list = append(list, channel(x, 0), channel(x, 1, data(1)), channel(3, x), channel(3, x, data(1)), channel(x, x))
	}
	for _, x := range badItems() {
		list = append(list, channel(3, 1, x), channel(3, 1, data(1), x), channel(3, 1, x, data(1)))
	}
	return list
}

// goodItem reports whether an item is valid.
func goodItem(x impl.Item) bool {
	least, most := 0, impl.MaxReach
	switch x.Kind {
	case impl.ItemMark:
		least = -1
	case impl.ItemBarrier:
		least, most = 1, impl.MaxCheckpoint
	}
	return x.Kind >= 0 && x.Kind <= 2 && x.Number >= least && x.Number <= most
}

// goodChannel reports whether a channel is valid.
func goodChannel(c impl.Channel) bool {
	for _, x := range c.Items {
		if !goodItem(x) {
			return false
		}
	}
	return c.Buffers >= 1 && c.Buffers <= impl.MaxBuffers && c.Credits >= 0 && c.Credits <= c.Buffers && len(c.Items)+c.Credits <= c.Buffers
}

// expectChannel fails the test if a channel is not as expected.
func expectChannel(t *testing.T, what string, got impl.Channel, want impl.Channel) {
	t.Helper()
	expectIs(t, what+", its buffers", got.Buffers, want.Buffers)
	expectIs(t, what+", its credits", got.Credits, want.Credits)
	expect(t, what+", its items", got.Items, want.Items)
}

func TestP88NewChannelsHaveRoom(t *testing.T) {
	r := source(140)
	for n := 1; n <= impl.MaxBuffers; n++ {
		c := impl.ChannelNew(n)
		expectChannel(t, "ChannelNew", c, channel(n, n))
		list := someItems(r, n+1)
		var ok bool
		for i, x := range list[:n] {
			c, ok = impl.SendItem(c, x)
			expectTrue(t, "there is room", ok)
			expectChannel(t, "SendItem", c, channel(n, n-i-1, list[:i+1]...))
		}
		c, ok = impl.SendItem(c, list[n])
		expectTrue(t, "there is no room for one more", !ok)
		expectChannel(t, "a full channel", c, channel(n, 0, list[:n]...))
	}
}

func TestChannelNewOfInvalidNumbers(t *testing.T) {
	for _, n := range joined(extremes, []int{-1, 0, impl.MaxBuffers + 1, 1000}) {
		expectChannel(t, "ChannelNew of an invalid number", impl.ChannelNew(n), impl.Channel{})
	}
}

func TestP89SendingNeedsACredit(t *testing.T) {
	r := source(141)
	var sent, refused int
	for range rounds * 2 {
		c, x := someChannel(r), someItem(r)
		expectTrue(t, "the channel is valid", goodChannel(c) && goodItem(x))
		got, ok := impl.SendItem(c, x)
		expectIs(t, "whether the item is sent", ok, c.Credits > 0)
		if ok {
			expectChannel(t, "SendItem", got, channel(c.Buffers, c.Credits-1, joined(c.Items, []impl.Item{x})...))
			expectTrue(t, "the channel stays valid", goodChannel(got))
		} else {
			expectChannel(t, "SendItem without a credit", got, c)
		}
		sent, refused = sent+amount(ok), refused+amount(!ok)
	}
	expectTrue(t, "items are sent and refused", sent > rounds/4 && refused > rounds/4)
}

func TestSendItemAtLimits(t *testing.T) {
	for _, x := range edgeItems() {
		c, ok := impl.SendItem(channel(1, 1), x)
		expectTrue(t, "an item with a number at a limit is sent", ok)
		expectChannel(t, "SendItem", c, channel(1, 0, x))
	}
	n := impl.MaxBuffers
	edge := edgeItems()
	c, ok := impl.SendItem(channel(n, 1, edge...), data(7))
	expectTrue(t, "the last buffer is used", ok)
	expectChannel(t, "SendItem", c, channel(n, 0, append(edge, data(7))...))
	c, ok = impl.SendItem(channel(n, 0, edge...), data(7))
	expectTrue(t, "a free buffer is not enough", !ok)
	expectChannel(t, "SendItem", c, channel(n, 0, edge...))
	c, ok = impl.SendItem(channel(n, 0), data(7))
	expectTrue(t, "an empty channel may have no credits", !ok)
	expectChannel(t, "SendItem", c, channel(n, 0))
}

func TestSendItemOfInvalidArguments(t *testing.T) {
	for _, x := range badItems() {
		for _, c := range []impl.Channel{channel(3, 2, data(1)), channel(3, 0, data(1)), channel(1, 1), channel(1, 0), {}} {
			got, ok := impl.SendItem(c, x)
			expectTrue(t, "an invalid item is not sent", !ok && !goodItem(x))
			expectChannel(t, "SendItem of an invalid item", got, impl.Channel{})
		}
	}
	for _, c := range badChannels() {
		expectTrue(t, "the channel is invalid", !goodChannel(c))
		got, ok := impl.SendItem(c, data(1))
		expectTrue(t, "nothing is sent to an invalid channel", !ok)
		expectChannel(t, "SendItem to an invalid channel", got, impl.Channel{})
	}
}

func TestP90ItemsComeInOrder(t *testing.T) {
	r := source(142)
	var taken, none int
	for range rounds * 2 {
		c := someChannel(r)
		got, x, ok := impl.TakeItem(c)
		expectIs(t, "whether there is an item", ok, len(c.Items) > 0)
		if ok {
			expectIs(t, "the first item", x, c.Items[0])
			expectChannel(t, "TakeItem", got, channel(c.Buffers, c.Credits, c.Items[1:]...))
			expectTrue(t, "the channel stays valid", goodChannel(got))
		} else {
			expectIs(t, "the item of an empty channel", x, impl.Item{})
			expectChannel(t, "TakeItem of an empty channel", got, c)
		}
		taken, none = taken+amount(ok), none+amount(!ok)
	}
	expectTrue(t, "items are taken, and some channels are empty", taken > rounds/4 && none > rounds/4)
}

func TestTakeItemOfInvalidChannels(t *testing.T) {
	for _, c := range badChannels() {
		got, x, ok := impl.TakeItem(c)
		expectTrue(t, "nothing is taken from an invalid channel", !ok && x == impl.Item{})
		expectChannel(t, "TakeItem of an invalid channel", got, impl.Channel{})
	}
}

func TestP91CreditsAreBuffers(t *testing.T) {
	r := source(143)
	var granted, refused int
	for range rounds * 2 {
		c := someChannel(r)
		got, ok := impl.GrantCredit(c)
		expectIs(t, "whether there is one credit more", ok, len(c.Items)+c.Credits < c.Buffers)
		if ok {
			expectChannel(t, "GrantCredit", got, channel(c.Buffers, c.Credits+1, c.Items...))
			_, sent := impl.SendItem(got, someItem(r))
			expectTrue(t, "an item can be sent then", sent && goodChannel(got))
		} else {
			expectChannel(t, "GrantCredit without a free buffer", got, c)
		}
		granted, refused = granted+amount(ok), refused+amount(!ok)
	}
	expectTrue(t, "credits are granted and refused", granted > rounds/4 && refused > rounds/4)
}

func TestGrantCreditAtLimits(t *testing.T) {
	n := impl.MaxBuffers
	full := slices.Repeat([]impl.Item{data(impl.MaxReach)}, n)
	for _, x := range []struct {
		c  impl.Channel
		ok bool
	}{
		{channel(n, 0), true}, {channel(n, n-1), true}, {channel(n, n), false}, {channel(n, 0, full[:n-1]...), true}, {channel(n, 1, full[:n-1]...), false}, {channel(n, 0, full...), false},
		{channel(1, 0), true}, {channel(1, 1), false}, {channel(1, 0, barrier(1)), false},
	} {
		got, ok := impl.GrantCredit(x.c)
		expectIs(t, "whether there is one credit more", ok, x.ok)
		want := x.c
		want.Credits += amount(x.ok)
		expectChannel(t, "GrantCredit", got, want)
	}
}

func TestGrantCreditOfInvalidChannels(t *testing.T) {
	for _, c := range badChannels() {
		got, ok := impl.GrantCredit(c)
		expectTrue(t, "an invalid channel gets no credit", !ok)
		expectChannel(t, "GrantCredit of an invalid channel", got, impl.Channel{})
	}
}

func TestChannelsAreQueues(t *testing.T) {
	r := source(144)
	taken := 0
	for n := 1; n <= impl.MaxBuffers; n++ {
		c, credits := impl.ChannelNew(n), n
		var queue []impl.Item
		for range rounds {
			var ok bool
			switch r.IntN(3) {
			case 0:
				x := someItem(r)
				c, ok = impl.SendItem(c, x)
				expectIs(t, "whether there was a credit", ok, credits > 0)
				if ok {
					queue, credits = append(queue, x), credits-1
				}
			case 1:
				var x impl.Item
				c, x, ok = impl.TakeItem(c)
				expectIs(t, "whether there was an item", ok, len(queue) > 0)
				if ok {
					expectIs(t, "the item that was sent first", x, queue[0])
					queue, taken = queue[1:], taken+1
				}
			default:
				c, ok = impl.GrantCredit(c)
				expectIs(t, "whether there was a free buffer", ok, len(queue)+credits < n)
				credits += amount(ok)
			}
			expectChannel(t, "the channel", c, channel(n, credits, queue...))
		}
	}
	expectTrue(t, "many items have gone through the channels", taken > rounds)
}

func TestChannelsKeepArguments(t *testing.T) {
	r := source(145)
	bad := item(-5, -5)
	for range rounds * 2 {
		c := someChannel(r)
		items := guarded(c.Items, data(77))
		c.Items = items.list
		want := c
		sent, _ := impl.SendItem(c, someItem(r))
		items.check(t, "SendItem")
		spoil(sent.Items, bad)
		rest, _, _ := impl.TakeItem(c)
		items.check(t, "TakeItem")
		spoil(rest.Items, bad)
		granted, _ := impl.GrantCredit(c)
		items.check(t, "GrantCredit")
		spoil(granted.Items, bad)
		items.check(t, "a channel whose results were overwritten")
		expectChannel(t, "an argument", c, want)
	}
}
