package link

import (
	"cmp"
	"iter"
	"slices"

	"rivermark/api"
)

// Receive returns the inbox after a frame, and what is delivered.
func Receive(i api.Inbox, f api.Frame) (api.Inbox, []api.Frame, api.Errno) {
	if !ValidIn(i) || !within(f.Seq, 0, maxSent) || !fits(f.Body) {
		return i, nil, api.ErrArg
	}
	after := api.Inbox{Next: i.Next, Ahead: slices.Clone(i.Ahead)}
	var delivered []api.Frame
	for d := range due(i, f) {
		delivered = append(delivered, d)
		after.Next = following(d)
	}
	if len(delivered) == 0 {
		after.Ahead = keep(after, f)
		return after, nil, api.OK
	}
	// What is left behind was delivered just now, or a summary stands for it.
	after.Ahead = slices.DeleteFunc(after.Ahead, func(w api.Frame) bool { return w.Seq < after.Next })
	return after, delivered, api.OK
}

// Restart returns what is left of an inbox after a failure.
func Restart(i api.Inbox) api.Inbox { return api.Inbox{Next: i.Next} }

// due yields the frames that are delivered when a frame arrives: the frame, and those that waited for it.
func due(i api.Inbox, f api.Frame) iter.Seq[api.Frame] {
	return func(yield func(api.Frame) bool) {
		if !isDue(f, i.Next) || !yield(f) {
			return
		}
		next := following(f)
		for _, w := range i.Ahead {
			if w.Seq != next {
				continue
			}
			if !yield(w) {
				return
			}
			next = following(w)
		}
	}
}

// isDue reports whether a frame is delivered at once by an inbox that waits for the message next.
func isDue(f api.Frame, next int) bool {
	if f.Sum {
		return f.Seq > next
	}
	return f.Seq == next
}

// following returns the number of the message that comes next after a frame is delivered.
func following(f api.Frame) int {
	if f.Sum {
		return f.Seq
	}
	return f.Seq + 1
}

// keep returns the frames that an inbox has ahead after one that is not delivered; it may change those of the inbox.
func keep(i api.Inbox, f api.Frame) []api.Frame {
	at, known := slices.BinarySearchFunc(i.Ahead, f.Seq, func(w api.Frame, n int) int { return cmp.Compare(w.Seq, n) })
	if f.Sum || f.Seq < i.Next || known || len(i.Ahead) == api.MaxAhead {
		return i.Ahead
	}
	return slices.Insert(i.Ahead, at, f)
}
