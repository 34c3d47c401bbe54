// Package follow checks the events of a value as they arrive. It keeps only what
// is open: the keys of maps that have not ended.
package follow

import (
	"datakit/api"
	"datakit/event"
)

// Frame is a list or a map that has begun and not ended.
type Frame struct {
	Fields bool // it is a map
	Keys   map[string]bool
	Key    string
	Count  int  // values in it that have begun
	keyed  bool // a key was taken, and its value was not
}

// Stream has what is open of a value.
type Stream struct {
	Open     []Frame
	Seen     int // values that have begun
	Complete bool
}

// Begins reports whether events of a kind begin a value.
func Begins(kind int) bool {
	return kind == api.EvScalar || kind == api.EvListStart || kind == api.EvMapStart
}

// Top returns the innermost list or map that is open.
func (s *Stream) Top() *Frame { return &s.Open[len(s.Open)-1] }

// Check returns the error that a builder which was given the same events would
// return for one more.
func (s *Stream) Check(e api.Event) api.Errno {
	// What is wrong with the event alone, a new builder says as well.
	if err := event.New().Add(e); err != api.OK && err != api.ErrState {
		return err
	}
	switch {
	case !s.follows(e.Kind):
		return api.ErrState
	case e.Kind == api.EvKey && s.Top().Keys[e.Key]:
		return api.ErrExists
	case Begins(e.Kind) && len(s.Open) >= api.MaxDepth:
		return api.ErrDepth
	case Begins(e.Kind) && s.Seen >= api.MaxNodes:
		return api.ErrSize
	}
	return api.OK
}

// follows reports whether an event of a kind may follow those that were taken.
func (s *Stream) follows(kind int) bool {
	if len(s.Open) == 0 {
		return !s.Complete && Begins(kind)
	}
	f := s.Top()
	switch kind {
	case api.EvKey, api.EvMapEnd:
		return f.Fields && !f.keyed
	case api.EvListEnd:
		return !f.Fields
	}
	return !f.Fields || f.keyed
}

// Take takes an event without an error.
func (s *Stream) Take(e api.Event) {
	if Begins(e.Kind) {
		s.Seen++
		if len(s.Open) > 0 {
			s.Top().Count++
		}
	}
	switch e.Kind {
	case api.EvKey:
		f := s.Top()
		f.Keys[e.Key] = true
		f.Key, f.keyed = e.Key, true
	case api.EvListStart:
		s.Open = append(s.Open, Frame{})
	case api.EvMapStart:
		s.Open = append(s.Open, Frame{Fields: true, Keys: map[string]bool{}})
	case api.EvScalar:
		s.finish()
	default:
		s.Open = s.Open[:len(s.Open)-1]
		s.finish()
	}
}

// finish ends a value.
func (s *Stream) finish() {
	if len(s.Open) == 0 {
		s.Complete = true
		return
	}
	s.Top().keyed = false
}
