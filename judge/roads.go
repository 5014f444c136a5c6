package judge

import (
	"errors"

	"straddle/api"
	"straddle/frame"
	"straddle/msg"
	"straddle/num"
	"straddle/venue"
)

const mostTicks = 1000 // behind one Item

// roads is a venue, what of each session's bytes is on its way there, and what went back.
type roads struct {
	*venue.Venue
	streams [api.MaxSess]*frame.Stream // session 1's first
	answers []Answer
}

// roadsTo tells roads on which nothing has come yet.
func roadsTo(v *venue.Venue) *roads {
	r := &roads{Venue: v}
	for i := range r.streams {
		r.streams[i] = frame.New()
	}
	return r
}

// feed takes bytes that come from a session; from what is no session there is no road.
func (r *roads) feed(sess int, b []byte) {
	if !num.In(int64(sess), 1, api.MaxSess) {
		return
	}
	s := r.streams[sess-1]
	dead := s.Err() != nil // what it died of was told then
	bodies, err := s.Feed(b)
	for _, body := range bodies {
		r.do(sess, body)
	}
	if err != nil && !dead {
		r.refuse(sess, err)
	}
}

// do does what a body asks for, if it is a message.
func (r *roads) do(sess int, body []byte) {
	m, err := msg.Decode(body)
	if err != nil {
		r.refuse(sess, err)
		return
	}
	r.tell(r.Do(sess, m))
}

// refuse tells a session the number at the end of an error.
func (r *roads) refuse(sess int, err error) {
	var e api.Errno
	errors.As(err, &e)
	r.tell(r.Refuse(sess, e))
}

// wait lets so much time go by, if it is no more than may.
func (r *roads) wait(ticks int) {
	if !num.In(int64(ticks), 0, mostTicks) {
		return
	}
	for range ticks {
		r.tell(r.Tick())
	}
}

// tell puts messages on their roads back. Nothing that a venue sends is refused there: its kinds are known, and the longest,
// a Told of 50 rows of at most 13 bytes each, is far below a frame's most.
func (r *roads) tell(l []venue.Out) {
	for _, out := range l {
		body, _ := msg.Encode(out.M)
		wrapped, _ := frame.Wrap(body)
		r.answers = append(r.answers, Answer{Sess: out.Sess, Bytes: wrapped})
	}
}
