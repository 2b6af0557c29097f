package link_test

import (
	"math"
	"math/rand"
	"slices"
	"strconv"
	"strings"
	"testing"

	"rivermark/api"
	"rivermark/link"
)

// story is a sender and a receiver, all that is on its way, and all that was put and delivered.
type story struct {
	t       *testing.T
	r       *rand.Rand
	out     api.Outbox
	in      api.Inbox
	flying  []api.Frame // frames that were sent once
	told    []int       // numbers that the receiver has told once
	put     []string
	reached int // the number of the message that has to be delivered next
}

// digest returns the summary of the first n messages.
func (s *story) digest(n int) string { return strings.Join(s.put[:n], " ") }

// step does something that the chapter allows.
func (s *story) step() {
	switch s.r.Intn(8) {
	case 0, 1:
		s.say()
	case 2:
		s.fold()
	case 3:
		s.send()
	case 4, 5:
		s.arrive()
	case 6:
		s.tell()
	case 7:
		if s.r.Intn(4) == 0 {
			s.in = link.Restart(s.in)
		}
	}
}

// say puts a message.
func (s *story) say() {
	body := "m" + strconv.Itoa(len(s.put))
	o, e := link.Put(s.out, body)
	if e != api.OK {
		s.t.Fatalf("P11.1: Put: error %d", e)
	}
	s.out, s.put = o, append(s.put, body)
}

// fold folds some messages, also none. Those that are acknowledged have left the queue before.
func (s *story) fold() {
	if s.r.Intn(3) > 0 {
		return
	}
	upto := s.out.Base + s.r.Intn(len(s.out.Queue)+1)
	o, e := link.Fold(s.out, upto, s.digest(upto))
	if e != api.OK {
		s.t.Fatalf("P11.2: Fold: error %d", e)
	}
	s.out = o
}

// send sends some of the frames.
func (s *story) send() {
	l, e := link.Frames(s.out, s.r.Intn(12))
	if e != api.OK {
		s.t.Fatalf("P11.3: Frames: error %d", e)
	}
	s.flying = append(s.flying, l...)
}

// arrive lets any frame arrive that was sent once, again or for the first time; younger ones come more often.
func (s *story) arrive() {
	if len(s.flying) == 0 {
		return
	}
	k := len(s.flying) - 1 - min(s.r.Intn(len(s.flying)), s.r.Intn(len(s.flying)))
	s.take(s.flying[k])
}

// take receives a frame twice, and checks what is delivered.
func (s *story) take(f api.Frame) {
	next, l, e := link.Receive(s.in, f)
	if e != api.OK {
		s.t.Fatalf("P11.5: Receive: error %d", e)
	}
	for _, d := range l {
		s.deliver(d)
	}
	if next.Next != s.reached {
		s.t.Fatalf("P11.5: next is %d, and the message %d was delivered", next.Next, s.reached-1)
	}
	again, l, e := link.Receive(next, f)
	if e != api.OK || len(l) != 0 || !sameIn(again, next) {
		s.t.Fatalf("P11.9: Receive(%v, %v) once more = %v, %v, %d", next, f, again, l, e)
	}
	s.in = next
}

// deliver checks P11.7 for a frame that is delivered.
func (s *story) deliver(d api.Frame) {
	switch {
	case d.Sum && (d.Seq <= s.reached || d.Seq > len(s.put) || d.Body != s.digest(d.Seq)):
		s.t.Fatalf("P11.7: the summary %d is delivered where the message %d is next", d.Seq, s.reached)
	case d.Sum:
		s.reached = d.Seq
	case d.Seq != s.reached || d.Body != s.put[d.Seq]:
		s.t.Fatalf("P11.7: the message %d is delivered where the message %d is next", d.Seq, s.reached)
	default:
		s.reached++
	}
}

// tell lets the sender hear what the receiver tells, or has told once.
func (s *story) tell() {
	s.told = append(s.told, s.in.Next)
	if s.r.Intn(2) == 0 {
		return
	}
	o, e := link.Acknowledge(s.out, s.told[s.r.Intn(len(s.told))])
	if e != api.OK {
		s.t.Fatalf("P11.4: Acknowledge: error %d", e)
	}
	s.out = o
}

// settle checks P11.8.
func (s *story) settle() {
	l, e := link.Frames(s.out, math.MaxInt)
	if e != api.OK {
		s.t.Fatalf("P11.3: Frames: error %d", e)
	}
	for _, f := range l {
		s.take(f)
	}
	if s.in.Next != len(s.put) {
		s.t.Fatalf("P11.8: next is %d, and the end is %d", s.in.Next, len(s.put))
	}
	o, e := link.Acknowledge(s.out, s.in.Next)
	if e != api.OK {
		s.t.Fatalf("P11.4: Acknowledge: error %d", e)
	}
	if l, e := link.Frames(o, 9); e != api.OK || len(l) != 0 {
		s.t.Fatalf("P11.8: after all, Frames returns %v, %d", l, e)
	}
	s.out = o
}

// TestStories checks P11.7 to P11.9 in random stories.
func TestStories(t *testing.T) {
	for seed := range int64(400) {
		s := &story{t: t, r: rand.New(rand.NewSource(seed))}
		for range 1 + s.r.Intn(1500) {
			s.step()
			if !link.ValidOut(s.out) || !link.ValidIn(s.in) {
				t.Fatalf("the story %d: an outbox or an inbox is not valid: %v, %v", seed, s.out, s.in)
			}
			if s.r.Intn(200) == 0 {
				s.settle()
			}
			if len(s.out.Queue) == api.MaxQueue {
				break
			}
		}
		s.settle()
	}
}

// TestShortStories does all short sequences of steps of a sender with up to three messages, all of whose frames may arrive at any time.
func TestShortStories(t *testing.T) {
	put := []string{"a", "b", "c"}
	start, _ := link.Put(api.Outbox{}, put[0])
	var more func(s story, depth int)
	more = func(s story, depth int) {
		end := s
		end.settle()
		if depth == 0 {
			return
		}
		next := func(change func(s *story)) {
			other := s
			other.flying = slices.Clone(s.flying)
			change(&other)
			more(other, depth-1)
		}
		if n := len(s.put); n < len(put) {
			next(func(s *story) {
				s.put = put[:n+1]
				s.out, _ = link.Put(s.out, put[n])
			})
		}
		for upto := s.out.Base; upto <= len(s.put); upto++ {
			next(func(s *story) { s.out, _ = link.Fold(s.out, upto, s.digest(upto)) })
		}
		next(func(s *story) {
			l, _ := link.Frames(s.out, 9)
			for _, f := range l {
				if !slices.Contains(s.flying, f) {
					s.flying = append(s.flying, f)
				}
			}
		})
		for _, f := range s.flying {
			next(func(s *story) { s.take(f) })
		}
		for n := range s.in.Next + 1 {
			next(func(s *story) { s.out, _ = link.Acknowledge(s.out, n) })
		}
		next(func(s *story) { s.in = link.Restart(s.in) })
	}
	more(story{t: t, put: put[:1], out: start}, 8)
}

// TestExamples goes through the chapter's examples.
func TestExamples(t *testing.T) {
	var o api.Outbox
	for _, body := range []string{"a", "b", "c"} {
		o, _ = link.Put(o, body)
	}
	l, e := link.Frames(o, 2)
	if e != api.OK || !slices.Equal(l, frames(message(0, "a"), message(1, "b"))) {
		t.Fatalf("P11.3: %v, %d", l, e)
	}
	i, got, e := link.Receive(api.Inbox{}, l[1])
	if e != api.OK || len(got) != 0 {
		t.Errorf("P11.5: %v, %d", got, e)
	}
	i, got, e = link.Receive(i, l[0])
	if e != api.OK || i.Next != 2 || !slices.Equal(got, l) {
		t.Errorf("P11.5: %v, %v, %d", i, got, e)
	}
	done, e := link.Acknowledge(o, 2)
	if rest, _ := link.Frames(done, 9); e != api.OK || done.Base != 2 || !slices.Equal(rest, frames(message(2, "c"))) {
		t.Errorf("P11.4: %v, %v, %d", done, rest, e)
	}
	folded, e := link.Fold(o, 2, "ab")
	rest, _ := link.Frames(folded, 9)
	if e != api.OK || !slices.Equal(rest, frames(summary(2, "ab"), message(2, "c"))) {
		t.Fatalf("P11.2: %v, %v, %d", folded, rest, e)
	}
	i, got, e = link.Receive(api.Inbox{}, rest[1])
	if e != api.OK || len(got) != 0 {
		t.Errorf("P11.5: %v, %d", got, e)
	}
	i, got, e = link.Receive(i, rest[0])
	if e != api.OK || i.Next != 3 || !slices.Equal(got, rest) {
		t.Errorf("P11.5: %v, %v, %d", i, got, e)
	}
}

// wild returns any number.
func wild(r *rand.Rand) int {
	switch r.Intn(4) {
	case 0:
		return int(r.Uint64()) >> r.Intn(64)
	case 1:
		return []int{-1, 0, sentLimit, sentLimit + 1, nextLimit, nextLimit + 1, math.MinInt, math.MaxInt}[r.Intn(8)]
	}
	return r.Intn(12)
}

// TestAnyArguments checks P1: whatever the arguments are, all functions return, and with an error the other results are zero.
func TestAnyArguments(t *testing.T) {
	r := rand.New(rand.NewSource(13))
	for range 100000 {
		o := api.Outbox{Base: wild(r), Acked: wild(r), Summary: "s", Queue: bodies(r.Intn(5))}
		i := api.Inbox{Next: wild(r)}
		for range r.Intn(4) {
			i.Ahead = append(i.Ahead, api.Frame{Sum: r.Intn(9) == 0, Seq: wild(r), Body: "b"})
		}
		n := wild(r)
		for k, call := range []func() (api.Outbox, api.Errno){
			func() (api.Outbox, api.Errno) { return link.Put(o, "x") },
			func() (api.Outbox, api.Errno) { return link.Fold(o, n, "t") },
			func() (api.Outbox, api.Errno) { return link.Acknowledge(o, n) },
		} {
			if got, e := call(); e != api.OK && !sameOut(got, api.Outbox{}) || e == api.OK && !link.ValidOut(o) {
				t.Fatalf("P11.%d: a call for %v with %d returns %v, %d", []int{1, 2, 4}[k], o, n, got, e)
			}
		}
		if l, e := link.Frames(o, n); (e == api.OK) != (link.ValidOut(o) && n >= 0) || e != api.OK && len(l) != 0 {
			t.Fatalf("P11.3: Frames(%v, %d) = %v, %d", o, n, l, e)
		}
		f := api.Frame{Sum: r.Intn(3) == 0, Seq: n, Body: "b"}
		if got, l, e := link.Receive(i, f); (e == api.OK) != (link.ValidIn(i) && n >= 0 && n <= sentLimit) || e != api.OK && (len(l) != 0 || !sameIn(got, i)) {
			t.Fatalf("P11.5: Receive(%v, %v) = %v, %v, %d", i, f, got, l, e)
		}
		link.Restart(i)
	}
}
