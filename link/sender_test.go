package link_test

import (
	"math"
	"math/rand"
	"slices"
	"testing"

	"rivermark/api"
	"rivermark/link"
)

// TestPut checks P11.1.
func TestPut(t *testing.T) {
	full := bodies(api.MaxQueue)
	for _, c := range []struct {
		what string
		o    api.Outbox
		body string
		want api.Outbox
		e    api.Errno
	}{
		{"the first message", api.Outbox{}, "a", api.Outbox{Queue: []string{"a"}}, api.OK},
		{"an empty message", api.Outbox{}, "", api.Outbox{Queue: []string{""}}, api.OK},
		{"one more", api.Outbox{Base: 5, Acked: 3, Summary: "s", Queue: []string{"f"}}, "g", api.Outbox{Base: 5, Acked: 3, Summary: "s", Queue: []string{"f", "g"}}, api.OK},
		{"the longest body", api.Outbox{}, long(0), api.Outbox{Queue: []string{long(0)}}, api.OK},
		{"a longer body", api.Outbox{}, long(1), api.Outbox{}, api.ErrArg},
		{"the last that has room", api.Outbox{Queue: full[1:]}, "z", api.Outbox{Queue: append(slices.Clone(full[1:]), "z")}, api.OK},
		{"no room", api.Outbox{Queue: full}, "z", api.Outbox{}, api.ErrLimit},
		{"no room, and a longer body", api.Outbox{Queue: full}, long(1), api.Outbox{}, api.ErrArg},
		{"the last number", api.Outbox{Base: sentLimit - 2, Queue: []string{"a"}}, "b", api.Outbox{Base: sentLimit - 2, Queue: []string{"a", "b"}}, api.OK},
		{"the end is the limit", api.Outbox{Base: sentLimit - 2, Queue: []string{"a", "b"}}, "c", api.Outbox{}, api.ErrLimit},
		{"the base is the limit", api.Outbox{Base: sentLimit}, "c", api.Outbox{}, api.ErrLimit},
		{"the end is beyond the limit", api.Outbox{Base: sentLimit, Queue: []string{"a"}}, "c", api.Outbox{}, api.ErrLimit},
		{"the end is the limit, and a longer body", api.Outbox{Base: sentLimit}, long(1), api.Outbox{}, api.ErrArg},
	} {
		if got, e := link.Put(c.o, c.body); e != c.e || !sameOut(got, c.want) {
			t.Errorf("P11.1: Put, %s: error %d, base %d, %d messages", c.what, e, got.Base, len(got.Queue))
		}
	}
}

// TestFold checks P11.2.
func TestFold(t *testing.T) {
	o := api.Outbox{Base: 5, Acked: 4, Summary: "s", Queue: []string{"f", "g", "h"}}
	for _, c := range []struct {
		what    string
		o       api.Outbox
		upto    int
		summary string
		want    api.Outbox
		e       api.Errno
	}{
		{"up to the base", o, 5, "t", api.Outbox{Base: 5, Acked: 4, Summary: "t", Queue: []string{"f", "g", "h"}}, api.OK},
		{"some", o, 7, "t", api.Outbox{Base: 7, Acked: 4, Summary: "t", Queue: []string{"h"}}, api.OK},
		{"all", o, 8, "t", api.Outbox{Base: 8, Acked: 4, Summary: "t"}, api.OK},
		{"before the base", o, 4, "t", api.Outbox{}, api.ErrArg},
		{"after the end", o, 9, "t", api.Outbox{}, api.ErrArg},
		{"a negative number", o, math.MinInt, "t", api.Outbox{}, api.ErrArg},
		{"a great number", o, math.MaxInt, "t", api.Outbox{}, api.ErrArg},
		{"an empty summary", o, 6, "", api.Outbox{Base: 6, Acked: 4, Queue: []string{"g", "h"}}, api.OK},
		{"the longest summary", o, 6, long(0), api.Outbox{Base: 6, Acked: 4, Summary: long(0), Queue: []string{"g", "h"}}, api.OK},
		{"a longer summary", o, 6, long(1), api.Outbox{}, api.ErrArg},
		{"confirmed messages", api.Outbox{Base: 5, Acked: 7, Queue: []string{"f", "g", "h"}}, 6, "t", api.Outbox{Base: 6, Acked: 7, Summary: "t", Queue: []string{"g", "h"}}, api.OK},
		{"nothing", api.Outbox{}, 0, "t", api.Outbox{Summary: "t"}, api.OK},
		{"up to the limit", api.Outbox{Base: sentLimit - 1, Queue: []string{"a"}}, sentLimit, "t", api.Outbox{Base: sentLimit, Summary: "t"}, api.OK},
	} {
		if got, e := link.Fold(c.o, c.upto, c.summary); e != c.e || !sameOut(got, c.want) {
			t.Errorf("P11.2: Fold, %s: error %d, base %d, acked %d, %d messages", c.what, e, got.Base, got.Acked, len(got.Queue))
		}
	}
}

// TestFrames checks P11.3.
func TestFrames(t *testing.T) {
	plain := api.Outbox{Base: 5, Acked: 5, Summary: "s", Queue: []string{"f", "g", "h"}}
	folded := api.Outbox{Base: 5, Acked: 4, Summary: "s", Queue: []string{"f", "g", "h"}}
	ahead := api.Outbox{Base: 5, Acked: 7, Summary: "s", Queue: []string{"f", "g", "h"}}
	for _, c := range []struct {
		what string
		o    api.Outbox
		most int
		want []api.Frame
		e    api.Errno
	}{
		{"nothing", api.Outbox{}, 9, nil, api.OK},
		{"no summary", plain, 9, frames(message(5, "f"), message(6, "g"), message(7, "h")), api.OK},
		{"just as many", plain, 3, frames(message(5, "f"), message(6, "g"), message(7, "h")), api.OK},
		{"less", plain, 2, frames(message(5, "f"), message(6, "g")), api.OK},
		{"none", plain, 0, nil, api.OK},
		{"less than none", plain, -1, nil, api.ErrArg},
		{"the least number", plain, math.MinInt, nil, api.ErrArg},
		{"the greatest number", plain, math.MaxInt, frames(message(5, "f"), message(6, "g"), message(7, "h")), api.OK},
		{"a summary", folded, 9, frames(summary(5, "s"), message(5, "f"), message(6, "g"), message(7, "h")), api.OK},
		{"a summary, and less", folded, 2, frames(summary(5, "s"), message(5, "f")), api.OK},
		{"a summary only", folded, 1, frames(summary(5, "s")), api.OK},
		{"a summary, and none", folded, 0, nil, api.OK},
		{"confirmed messages", ahead, 9, frames(message(7, "h")), api.OK},
		{"all are confirmed", api.Outbox{Base: 5, Acked: 6, Queue: []string{"f"}}, 9, nil, api.OK},
		{"an empty summary", api.Outbox{Base: 2}, 9, frames(summary(2, "")), api.OK},
	} {
		if got, e := link.Frames(c.o, c.most); e != c.e || !slices.Equal(got, c.want) {
			t.Errorf("P11.3: Frames, %s: error %d, %v", c.what, e, got)
		}
	}
	if l, e := link.Frames(api.Outbox{Base: 3, Queue: bodies(api.MaxQueue)}, api.MaxQueue+1); e != api.OK || len(l) != api.MaxQueue+1 || l[api.MaxQueue].Seq != api.MaxQueue+2 {
		t.Errorf("P11.3: Frames of a full outbox: error %d, %d frames", e, len(l))
	}
}

// TestAcknowledge checks P11.4.
func TestAcknowledge(t *testing.T) {
	folded := api.Outbox{Base: 5, Acked: 2, Summary: "s", Queue: []string{"f", "g", "h"}}
	ahead := api.Outbox{Base: 5, Acked: 7, Summary: "s", Queue: []string{"f", "g", "h"}}
	for _, c := range []struct {
		what string
		o    api.Outbox
		next int
		want api.Outbox
		e    api.Errno
	}{
		{"less than was confirmed", folded, 1, folded, api.OK},
		{"nothing at all", folded, 0, folded, api.OK},
		{"as before", folded, 2, folded, api.OK},
		{"some of the summary", folded, 4, api.Outbox{Base: 5, Acked: 4, Summary: "s", Queue: []string{"f", "g", "h"}}, api.OK},
		{"the whole summary", folded, 5, api.Outbox{Base: 5, Acked: 5, Summary: "s", Queue: []string{"f", "g", "h"}}, api.OK},
		{"a message after it", folded, 6, api.Outbox{Base: 6, Acked: 6, Queue: []string{"g", "h"}}, api.OK},
		{"all", folded, 8, api.Outbox{Base: 8, Acked: 8}, api.OK},
		{"more than all", folded, 9, api.Outbox{}, api.ErrArg},
		{"a great number", folded, math.MaxInt, api.Outbox{}, api.ErrArg},
		{"a negative number", folded, -1, api.Outbox{}, api.ErrArg},
		{"the least number", folded, math.MinInt, api.Outbox{}, api.ErrArg},
		{"what leaves the queue only now", ahead, 8, api.Outbox{Base: 8, Acked: 8}, api.OK},
		{"what has not left the queue", ahead, 7, ahead, api.OK},
		{"what has not left the queue, and less", ahead, 6, ahead, api.OK},
		{"nothing of nothing", api.Outbox{}, 0, api.Outbox{}, api.OK},
		{"one of nothing", api.Outbox{}, 1, api.Outbox{}, api.ErrArg},
		{"up to the limit", api.Outbox{Base: sentLimit - 1, Queue: []string{"a"}}, sentLimit, api.Outbox{Base: sentLimit, Acked: sentLimit}, api.OK},
	} {
		if got, e := link.Acknowledge(c.o, c.next); e != c.e || !sameOut(got, c.want) {
			t.Errorf("P11.4: Acknowledge, %s: error %d, base %d, acked %d, summary %q, %d messages", c.what, e, got.Base, got.Acked, got.Summary, len(got.Queue))
		}
	}
}

// TestSmallOutboxes compares all calls for all small outboxes with what the chapter says, message by message.
func TestSmallOutboxes(t *testing.T) {
	for base := range 4 {
		for n := range 4 {
			for acked := range base + n + 1 {
				for _, s := range []string{"", "old"} {
					o := api.Outbox{Base: base, Acked: acked, Summary: s, Queue: bodies(n)}
					for x := -1; x <= base+n+1; x++ {
						checkFold(t, o, x)
						checkFrames(t, o, x)
						checkAcknowledge(t, o, x)
					}
				}
			}
		}
	}
}

// remaining returns the messages of an outbox with numbers from first on.
func remaining(o api.Outbox, first int) []string {
	var l []string
	for k, body := range o.Queue {
		if o.Base+k >= first {
			l = append(l, body)
		}
	}
	return l
}

// checkFold compares Fold with P11.2.
func checkFold(t *testing.T, o api.Outbox, upto int) {
	t.Helper()
	want, wantE := api.Outbox{}, api.ErrArg
	if upto >= o.Base && upto <= o.Base+len(o.Queue) {
		want, wantE = api.Outbox{Base: upto, Acked: o.Acked, Summary: "new", Queue: remaining(o, upto)}, api.OK
	}
	if got, e := link.Fold(o, upto, "new"); e != wantE || !sameOut(got, want) {
		t.Errorf("P11.2: Fold(%v, %d) = %v, %d; want %v, %d", o, upto, got, e, want, wantE)
	}
}

// checkFrames compares Frames with P11.3.
func checkFrames(t *testing.T, o api.Outbox, most int) {
	t.Helper()
	var want []api.Frame
	wantE := api.ErrArg
	if most >= 0 {
		wantE = api.OK
		if o.Acked < o.Base {
			want = append(want, summary(o.Base, o.Summary))
		}
		for k, body := range o.Queue {
			if o.Base+k >= o.Acked {
				want = append(want, message(o.Base+k, body))
			}
		}
		want = want[:min(most, len(want))]
	}
	if got, e := link.Frames(o, most); e != wantE || !slices.Equal(got, want) {
		t.Errorf("P11.3: Frames(%v, %d) = %v, %d; want %v, %d", o, most, got, e, want, wantE)
	}
}

// checkAcknowledge compares Acknowledge with P11.4.
func checkAcknowledge(t *testing.T, o api.Outbox, next int) {
	t.Helper()
	want, wantE := o, api.OK
	switch {
	case next < 0 || next > o.Base+len(o.Queue):
		want, wantE = api.Outbox{}, api.ErrArg
	case next > o.Acked && next > o.Base:
		want = api.Outbox{Base: next, Acked: next, Queue: remaining(o, next)}
	case next > o.Acked:
		want.Acked = next
	}
	if got, e := link.Acknowledge(o, next); e != wantE || !sameOut(got, want) {
		t.Errorf("P11.4: Acknowledge(%v, %d) = %v, %d; want %v, %d", o, next, got, e, want, wantE)
	}
}

// TestOutboxesApart checks that calls change no outbox but the one that they return, whatever it came from.
func TestOutboxesApart(t *testing.T) {
	r := rand.New(rand.NewSource(11))
	boxes := []api.Outbox{{}}
	kept := []api.Outbox{{}}
	for range 20000 {
		o := boxes[r.Intn(len(boxes))]
		end := o.Base + len(o.Queue)
		var next api.Outbox
		var e api.Errno
		switch r.Intn(6) {
		case 0:
			next, e = link.Fold(o, o.Base+r.Intn(len(o.Queue)+1), "s")
		case 1:
			next, e = link.Acknowledge(o, r.Intn(end+1))
		default:
			next, e = link.Put(o, string(rune('a'+r.Intn(26))))
		}
		if e != api.OK || !link.ValidOut(next) {
			t.Fatalf("a call for %v: error %d, %v", o, e, next)
		}
		boxes, kept = append(boxes, next), append(kept, copyOut(next))
	}
	for k := range boxes {
		if !sameOut(boxes[k], kept[k]) {
			t.Fatalf("the outbox %d was changed: %v, not %v", k, boxes[k], kept[k])
		}
	}
}
