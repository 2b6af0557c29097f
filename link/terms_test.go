package link_test

import (
	"math"
	"slices"
	"strings"
	"testing"

	"rivermark/api"
	"rivermark/link"
)

const (
	sentLimit = 1 << 40
	nextLimit = 1 << 41
)

// message and summary return frames.
func message(n int, body string) api.Frame { return api.Frame{Seq: n, Body: body} }
func summary(n int, body string) api.Frame { return api.Frame{Sum: true, Seq: n, Body: body} }

// frames returns a list of frames.
func frames(l ...api.Frame) []api.Frame { return l }

// long returns a body of the greatest length and some more bytes.
func long(more int) string { return strings.Repeat("x", api.MaxBody+more) }

// bodies returns n short messages.
func bodies(n int) []string {
	l := make([]string, n)
	for i := range l {
		l[i] = string(rune('a' + i%26))
	}
	return l
}

// run returns n messages with numbers from first on.
func run(first, n int) []api.Frame {
	l := make([]api.Frame, n)
	for i := range l {
		l[i] = message(first+i, string(rune('a'+i%26)))
	}
	return l
}

// sameOut reports whether two outboxes are the same.
func sameOut(a, b api.Outbox) bool {
	return a.Base == b.Base && a.Acked == b.Acked && a.Summary == b.Summary && slices.Equal(a.Queue, b.Queue)
}

// sameIn reports whether two inboxes are the same.
func sameIn(a, b api.Inbox) bool { return a.Next == b.Next && slices.Equal(a.Ahead, b.Ahead) }

// copyOut returns an outbox that shares nothing with another one.
func copyOut(o api.Outbox) api.Outbox {
	o.Queue = slices.Clone(o.Queue)
	return o
}

// copyIn returns an inbox that shares nothing with another one.
func copyIn(i api.Inbox) api.Inbox {
	i.Ahead = slices.Clone(i.Ahead)
	return i
}

// validOutboxes are as full, as long and as late as they may be.
func validOutboxes() []api.Outbox {
	return []api.Outbox{
		{},
		{Base: 5, Acked: 5, Queue: []string{"f", "g"}},
		{Base: 5, Acked: 3, Summary: "a to e", Queue: []string{"f"}},
		{Base: 5, Acked: 7, Queue: []string{"f", "g"}},
		{Base: 5, Acked: 5, Summary: "not needed"},
		{Base: sentLimit},
		{Base: sentLimit, Acked: sentLimit, Queue: []string{"a", "b"}},
		{Base: sentLimit - 1, Acked: sentLimit, Queue: []string{"a"}},
		{Queue: bodies(api.MaxQueue)},
		{Acked: api.MaxQueue, Queue: bodies(api.MaxQueue)},
		{Summary: long(0), Queue: []string{long(0), "", long(0)}},
	}
}

// invalidOutboxes are each wrong in one thing.
func invalidOutboxes() []api.Outbox {
	return []api.Outbox{
		{Base: -1},
		{Base: -1, Queue: []string{"a", "b"}},
		{Base: math.MinInt},
		{Base: sentLimit + 1},
		{Base: math.MaxInt, Queue: []string{"a"}},
		{Base: 3, Acked: -1},
		{Acked: math.MinInt},
		{Acked: 1},
		{Base: 5, Acked: 8, Queue: []string{"f", "g"}},
		{Acked: math.MaxInt},
		{Base: sentLimit, Acked: sentLimit + 1, Queue: []string{"a", "b"}},
		{Queue: bodies(api.MaxQueue + 1)},
		{Summary: long(1)},
		{Queue: []string{long(1), "b"}},
		{Queue: []string{"a", "b", long(1)}},
	}
}

// validInboxes are as full, as long and as late as they may be.
func validInboxes() []api.Inbox {
	return []api.Inbox{
		{},
		{Next: 4},
		{Ahead: frames(message(1, "b"))},
		{Next: 4, Ahead: frames(message(5, "f"), message(9, ""))},
		{Next: nextLimit},
		{Next: nextLimit - 1, Ahead: frames(message(nextLimit, "x"))},
		{Ahead: frames(message(2, ""), message(nextLimit, long(0)))},
		{Ahead: run(1, api.MaxAhead)},
	}
}

// invalidInboxes are each wrong in one thing.
func invalidInboxes() []api.Inbox {
	return []api.Inbox{
		{Next: -1},
		{Next: math.MinInt},
		{Next: nextLimit + 1},
		{Next: math.MaxInt, Ahead: frames(message(math.MinInt, ""))},
		{Ahead: frames(message(0, "a"))},
		{Next: 4, Ahead: frames(message(3, "d"))},
		{Next: 4, Ahead: frames(message(-1, "d"))},
		{Next: 4, Ahead: frames(message(5, "f"), message(5, "f"))},
		{Next: 4, Ahead: frames(message(6, "g"), message(5, "f"))},
		{Next: 4, Ahead: frames(message(5, "f"), message(4, "e"), message(6, "g"))},
		{Next: 4, Ahead: frames(message(5, "f"), message(nextLimit+1, "x"))},
		{Ahead: frames(message(math.MaxInt, "x"))},
		{Ahead: frames(summary(1, "a"))},
		{Ahead: frames(message(1, "b"), summary(2, "ab"), message(3, "d"))},
		{Ahead: frames(message(1, long(1)))},
		{Ahead: frames(message(1, "b"), message(2, long(1)))},
		{Ahead: run(1, api.MaxAhead+1)},
	}
}

// TestValid checks which outboxes and inboxes are valid.
func TestValid(t *testing.T) {
	for k, o := range validOutboxes() {
		if !link.ValidOut(o) {
			t.Errorf("Terms: the outbox %d is valid", k)
		}
	}
	for k, o := range invalidOutboxes() {
		if link.ValidOut(o) {
			t.Errorf("Terms: the outbox %d is not valid", k)
		}
	}
	for k, i := range validInboxes() {
		if !link.ValidIn(i) {
			t.Errorf("Terms: the inbox %d is valid", k)
		}
	}
	for k, i := range invalidInboxes() {
		if link.ValidIn(i) {
			t.Errorf("Terms: the inbox %d is not valid", k)
		}
	}
}

// TestNotValid gives each function what is not valid: the first error is ErrArg, and the other results are zero, but for the inbox.
func TestNotValid(t *testing.T) {
	for k, o := range invalidOutboxes() {
		upto := max(0, min(o.Base, sentLimit))
		for name, call := range map[string]func() (api.Outbox, api.Errno){
			"P11.1: Put":         func() (api.Outbox, api.Errno) { return link.Put(o, "x") },
			"P11.2: Fold":        func() (api.Outbox, api.Errno) { return link.Fold(o, upto, "s") },
			"P11.4: Acknowledge": func() (api.Outbox, api.Errno) { return link.Acknowledge(o, upto) },
		} {
			if got, e := call(); e != api.ErrArg || !sameOut(got, api.Outbox{}) {
				t.Errorf("%s of the outbox %d, which is not valid: error %d, base %d, %d messages", name, k, e, got.Base, len(got.Queue))
			}
		}
		if l, e := link.Frames(o, 3); e != api.ErrArg || len(l) != 0 {
			t.Errorf("P11.3: Frames of the outbox %d, which is not valid: error %d, %d frames", k, e, len(l))
		}
	}
	for k, i := range invalidInboxes() {
		for _, f := range frames(message(0, "a"), message(4, "e"), summary(7, "s"), message(-1, ""), message(9, long(1))) {
			got, l, e := link.Receive(i, f)
			if e != api.ErrArg || len(l) != 0 || !sameIn(got, i) {
				t.Errorf("P11.5: Receive(the inbox %d, which is not valid, %d): error %d, %d frames, next %d", k, f.Seq, e, len(l), got.Next)
			}
		}
	}
}
