package link_test

import (
	"maps"
	"math"
	"math/rand"
	"slices"
	"testing"

	"rivermark/api"
	"rivermark/link"
)

// receive is P11.5 for a valid inbox and a frame that is allowed, word by word, with the frames that wait in a map.
func receive(i api.Inbox, f api.Frame) (api.Inbox, []api.Frame) {
	waiting := map[int]api.Frame{}
	for _, w := range i.Ahead {
		waiting[w.Seq] = w
	}
	_, known := waiting[f.Seq]
	var delivered []api.Frame
	switch {
	case f.Sum && f.Seq > i.Next:
		delivered = append(delivered, f)
		i.Next = f.Seq
		maps.DeleteFunc(waiting, func(n int, _ api.Frame) bool { return n < f.Seq })
	case f.Sum, f.Seq < i.Next, known:
		return i, nil
	case f.Seq == i.Next:
		delivered = append(delivered, f)
		i.Next++
	case len(waiting) < api.MaxAhead:
		waiting[f.Seq] = f
	}
	for {
		w, ok := waiting[i.Next]
		if !ok {
			break
		}
		delivered = append(delivered, w)
		delete(waiting, i.Next)
		i.Next++
	}
	i.Ahead = nil
	for _, n := range slices.Sorted(maps.Keys(waiting)) {
		i.Ahead = append(i.Ahead, waiting[n])
	}
	return i, delivered
}

// checkReceive compares Receive with P11.5, and with P11.9.
func checkReceive(t *testing.T, i api.Inbox, f api.Frame) api.Inbox {
	t.Helper()
	before := copyIn(i)
	want, wantL := receive(i, f)
	got, l, e := link.Receive(i, f)
	if e != api.OK || !slices.Equal(l, wantL) || !sameIn(got, want) {
		t.Fatalf("P11.5: Receive(%v, %v) = %v, %v, %d; want %v, %v", before, f, got, l, e, want, wantL)
	}
	if !sameIn(i, before) {
		t.Fatalf("P11.5: Receive(%v, %v) changed the inbox to %v", before, f, i)
	}
	if !link.ValidIn(got) {
		t.Fatalf("P11.5: Receive(%v, %v) = %v, which is not valid", before, f, got)
	}
	again, l, e := link.Receive(got, f)
	if e != api.OK || len(l) != 0 || !sameIn(again, got) {
		t.Fatalf("P11.9: %v once more: Receive(%v) = %v, %v, %d", f, got, again, l, e)
	}
	return got
}

// TestReceive checks what the chapter says of single frames.
func TestReceive(t *testing.T) {
	i := api.Inbox{Next: 4, Ahead: frames(message(5, "f"), message(6, "g"), message(8, "i"), message(11, "l"))}
	for _, c := range []struct {
		what string
		f    api.Frame
		want api.Inbox
		l    []api.Frame
	}{
		{"an old message", message(3, "d"), i, nil},
		{"the first message", message(0, "a"), i, nil},
		{"the next message, and two more", message(4, "e"), api.Inbox{Next: 7, Ahead: i.Ahead[2:]}, frames(message(4, "e"), message(5, "f"), message(6, "g"))},
		{"a message that waits", message(8, "i"), i, nil},
		{"a message that waits, with another body", message(8, "other"), i, nil},
		{"a message between others", message(7, "h"), api.Inbox{Next: 4, Ahead: frames(message(5, "f"), message(6, "g"), message(7, "h"), message(8, "i"), message(11, "l"))}, nil},
		{"a message after all others", message(99, ""), api.Inbox{Next: 4, Ahead: append(slices.Clone(i.Ahead), message(99, ""))}, nil},
		{"an old summary", summary(3, "s"), i, nil},
		{"a summary of what was delivered", summary(4, "s"), i, nil},
		{"a summary of the next message", summary(5, "s"), api.Inbox{Next: 7, Ahead: i.Ahead[2:]}, frames(summary(5, "s"), message(5, "f"), message(6, "g"))},
		{"a summary of a message that waits", summary(6, "s"), api.Inbox{Next: 7, Ahead: i.Ahead[2:]}, frames(summary(6, "s"), message(6, "g"))},
		{"a summary before a gap", summary(7, "s"), api.Inbox{Next: 7, Ahead: i.Ahead[2:]}, frames(summary(7, "s"))},
		{"a summary after a gap", summary(8, "s"), api.Inbox{Next: 9, Ahead: i.Ahead[3:]}, frames(summary(8, "s"), message(8, "i"))},
		{"a summary between others", summary(9, "s"), api.Inbox{Next: 9, Ahead: i.Ahead[3:]}, frames(summary(9, "s"))},
		{"a summary of all", summary(12, "s"), api.Inbox{Next: 12}, frames(summary(12, "s"))},
		{"a summary of more", summary(99, ""), api.Inbox{Next: 99}, frames(summary(99, ""))},
		{"the longest body", message(4, long(0)), api.Inbox{Next: 7, Ahead: i.Ahead[2:]}, frames(message(4, long(0)), message(5, "f"), message(6, "g"))},
	} {
		got, l, e := link.Receive(i, c.f)
		if e != api.OK || !sameIn(got, c.want) || !slices.Equal(l, c.l) {
			t.Errorf("P11.5: %s: error %d, next %d, %d ahead, %d delivered", c.what, e, got.Next, len(got.Ahead), len(l))
		}
		checkReceive(t, i, c.f)
	}
}

// TestReceiveNotAllowed checks that frames that are not allowed leave the inbox as it is.
func TestReceiveNotAllowed(t *testing.T) {
	i := api.Inbox{Next: 4, Ahead: frames(message(6, "g"))}
	for _, f := range frames(
		message(-1, ""), summary(-1, ""), message(math.MinInt, ""),
		message(sentLimit+1, ""), summary(sentLimit+1, ""), message(math.MaxInt, ""),
		message(4, long(1)), message(3, long(1)), message(6, long(1)), message(9, long(1)), summary(9, long(1)), summary(1, long(1)),
	) {
		got, l, e := link.Receive(i, f)
		if e != api.ErrArg || len(l) != 0 || !sameIn(got, i) {
			t.Errorf("P11.5: Receive of %d, with %d bytes: error %d, next %d, %d ahead, %d delivered", f.Seq, len(f.Body), e, got.Next, len(got.Ahead), len(l))
		}
	}
}

// TestReceiveFull checks an inbox with all frames ahead that it can have.
func TestReceiveFull(t *testing.T) {
	full := api.Inbox{Next: 3, Ahead: run(10, api.MaxAhead)}
	last := 10 + api.MaxAhead - 1
	for _, c := range []struct {
		f               api.Frame
		next, ahead, is int
	}{
		{message(5, "f"), 3, api.MaxAhead, 0},
		{message(10, "a"), 3, api.MaxAhead, 0},
		{message(last+1, "x"), 3, api.MaxAhead, 0},
		{message(3, "d"), 4, api.MaxAhead, 1},
		{summary(9, "s"), 9, api.MaxAhead, 1},
		{summary(10, "s"), last + 1, 0, api.MaxAhead + 1},
		{summary(11, "s"), last + 1, 0, api.MaxAhead},
		{summary(last+1, "s"), last + 1, 0, 1},
	} {
		got, l, e := link.Receive(full, c.f)
		if e != api.OK || got.Next != c.next || len(got.Ahead) != c.ahead || len(l) != c.is {
			t.Errorf("P11.5: a full inbox gets %v: error %d, next %d, %d ahead, %d delivered", c.f, e, got.Next, len(got.Ahead), len(l))
		}
		checkReceive(t, full, c.f)
	}
	almost := api.Inbox{Next: 3, Ahead: full.Ahead[1:]}
	if got := checkReceive(t, almost, message(5, "f")); len(got.Ahead) != api.MaxAhead || got.Ahead[0].Seq != 5 {
		t.Errorf("P11.5: the last place: %d ahead", len(got.Ahead))
	}
}

// TestReceiveLate checks the greatest numbers.
func TestReceiveLate(t *testing.T) {
	i := api.Inbox{Next: sentLimit, Ahead: run(sentLimit+1, api.MaxAhead)}
	if got := checkReceive(t, i, message(sentLimit, "x")); got.Next != sentLimit+1+api.MaxAhead {
		t.Errorf("P11.5: the greatest number of a frame: next %d", got.Next)
	}
	checkReceive(t, i, summary(sentLimit, "x"))
	checkReceive(t, api.Inbox{Next: sentLimit - 1, Ahead: i.Ahead}, summary(sentLimit, "x"))
	checkReceive(t, api.Inbox{Next: sentLimit - 1, Ahead: i.Ahead[1:]}, message(sentLimit, "x"))
	checkReceive(t, api.Inbox{Next: nextLimit}, message(sentLimit, "x"))
	checkReceive(t, api.Inbox{Next: nextLimit}, summary(0, "x"))
	checkReceive(t, api.Inbox{Next: sentLimit, Ahead: frames(message(nextLimit, "y"))}, message(sentLimit, "x"))
	checkReceive(t, api.Inbox{Ahead: frames(message(nextLimit, "y"))}, summary(sentLimit, "x"))
}

// TestSmallInboxes gives all small frames to all small inboxes.
func TestSmallInboxes(t *testing.T) {
	const numbers = 8
	for next := range numbers {
		for set := range 1 << numbers {
			i := api.Inbox{Next: next}
			for n := range numbers {
				if set>>n&1 == 1 {
					i.Ahead = append(i.Ahead, message(n, string(rune('a'+n))))
				}
			}
			if !link.ValidIn(i) {
				continue
			}
			for n := range numbers + 2 {
				checkReceive(t, i, message(n, "m"))
				checkReceive(t, i, summary(n, "s"))
			}
		}
	}
}

// TestRestart checks P11.6.
func TestRestart(t *testing.T) {
	for _, i := range append(validInboxes(), invalidInboxes()...) {
		before := copyIn(i)
		if got := link.Restart(i); got.Next != i.Next || len(got.Ahead) != 0 {
			t.Errorf("P11.6: Restart: next %d, not %d; %d ahead", got.Next, i.Next, len(got.Ahead))
		}
		if !sameIn(i, before) {
			t.Errorf("P11.6: Restart changed the inbox of the message %d", i.Next)
		}
	}
}

// TestInboxesApart checks that calls change no inbox but the one that they return, whatever it came from, and no list that was delivered.
func TestInboxesApart(t *testing.T) {
	r := rand.New(rand.NewSource(12))
	boxes, kept := []api.Inbox{{}}, []api.Inbox{{}}
	var lists, keptLists [][]api.Frame
	for range 20000 {
		i := boxes[r.Intn(len(boxes))]
		f := api.Frame{Sum: r.Intn(20) == 0, Seq: max(0, i.Next-2+r.Intn(90)), Body: string(rune('a' + r.Intn(26)))}
		if r.Intn(4) == 0 {
			f.Seq = i.Next
		}
		next, l, e := link.Receive(i, f)
		want, wantL := receive(i, f)
		if e != api.OK || !sameIn(next, want) || !slices.Equal(l, wantL) {
			t.Fatalf("P11.5: Receive(%v, %v) = %v, %v, %d", i, f, next, l, e)
		}
		boxes, kept = append(boxes, next), append(kept, copyIn(next))
		lists, keptLists = append(lists, l), append(keptLists, slices.Clone(l))
	}
	for k := range boxes {
		if !sameIn(boxes[k], kept[k]) {
			t.Fatalf("the inbox %d was changed: %v, not %v", k, boxes[k], kept[k])
		}
	}
	for k := range lists {
		if !slices.Equal(lists[k], keptLists[k]) {
			t.Fatalf("the list %d was changed: %v, not %v", k, lists[k], keptLists[k])
		}
	}
}
