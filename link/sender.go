package link

import (
	"iter"
	"slices"

	"rivermark/api"
)

// Put returns the outbox with one more message.
func Put(o api.Outbox, body string) (api.Outbox, api.Errno) {
	switch {
	case !ValidOut(o) || !fits(body):
		return api.Outbox{}, api.ErrArg
	case len(o.Queue) == api.MaxQueue || end(o) >= maxSent:
		return api.Outbox{}, api.ErrLimit
	}
	// A queue of its own: two outboxes may go on from the same one.
	o.Queue = append(slices.Clone(o.Queue), body)
	return o, api.OK
}

// Fold returns the outbox in which old messages are only in the summary.
func Fold(o api.Outbox, upto int, summary string) (api.Outbox, api.Errno) {
	if !ValidOut(o) || !within(upto, o.Base, end(o)) || !fits(summary) {
		return api.Outbox{}, api.ErrArg
	}
	return leave(o, upto, summary), api.OK
}

// Frames returns the frames that the sender has to send.
func Frames(o api.Outbox, most int) ([]api.Frame, api.Errno) {
	if !ValidOut(o) || most < 0 {
		return nil, api.ErrArg
	}
	var frames []api.Frame
	for f := range unconfirmed(o) {
		if len(frames) == most {
			break
		}
		frames = append(frames, f)
	}
	return frames, api.OK
}

// Acknowledge returns the outbox after the receiver has confirmed messages.
func Acknowledge(o api.Outbox, next int) (api.Outbox, api.Errno) {
	if !ValidOut(o) || !within(next, 0, end(o)) {
		return api.Outbox{}, api.ErrArg
	}
	base, summary := o.Base, o.Summary
	// The summary is done with only when a message after it is confirmed.
	if next > max(o.Acked, o.Base) {
		base, summary = next, ""
	}
	o.Acked = max(o.Acked, next)
	return leave(o, base, summary), api.OK
}

// leave returns an outbox with the messages from base on, and a summary of those before.
func leave(o api.Outbox, base int, summary string) api.Outbox {
	queue := slices.Clone(o.Queue[base-o.Base:])
	return api.Outbox{Base: base, Acked: o.Acked, Summary: summary, Queue: queue}
}

// unconfirmed yields all frames that the sender has to send.
func unconfirmed(o api.Outbox) iter.Seq[api.Frame] {
	return func(yield func(api.Frame) bool) {
		if o.Acked < o.Base && !yield(api.Frame{Sum: true, Seq: o.Base, Body: o.Summary}) {
			return
		}
		for n := max(o.Acked, o.Base); n < end(o); n++ {
			if !yield(api.Frame{Seq: n, Body: o.Queue[n-o.Base]}) {
				return
			}
		}
	}
}
