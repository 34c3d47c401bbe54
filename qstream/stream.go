package qstream

import (
	"datakit/api"
	"datakit/event"
)

// frame is a list or a map that has begun and not ended.
type frame struct {
	fields bool // it is a map
	keys   map[string]bool
	key    string
	keyed  bool // a key was taken, and its value was not
	count  int  // elements that have begun
	onWay  bool // the step of the selection is applied to it
	found  bool // what the step names has begun
}

// stream follows the events of a value to the values that are selected. It holds
// a selected value in a builder, and of all others only what is open.
type stream struct {
	*event.Builder
	limits   api.Limits
	steps    []api.Select
	open     []frame
	seen     int // values that have begun
	held     int // values that have begun in the selected value
	complete bool
}

func begins(kind int) bool {
	return kind == api.EvScalar || kind == api.EvListStart || kind == api.EvMapStart
}

// take takes an event. It returns a value that is selected and complete.
func (s *stream) take(e api.Event) (api.Value, bool, api.Errno) {
	if err := s.check(e); err != api.OK {
		return api.Value{}, false, err
	}
	switch {
	case begins(e.Kind):
		return s.begin(e)
	case e.Kind == api.EvKey:
		f := s.top()
		f.keys[e.Key] = true
		f.key, f.keyed = e.Key, true
		return s.hold(e)
	}
	return s.end(e)
}

func (s *stream) top() *frame { return &s.open[len(s.open)-1] }

// check returns the error that a builder of the whole value would return, or
// that of the limits.
func (s *stream) check(e api.Event) api.Errno {
	// What is wrong with the event alone, a new builder says as well.
	if err := event.New().Add(e); err != api.OK && err != api.ErrState {
		return err
	}
	if !s.follows(e.Kind) {
		return api.ErrState
	}
	if e.Kind == api.EvKey && s.top().keys[e.Key] {
		return api.ErrExists
	}
	if !begins(e.Kind) {
		return api.OK
	}
	switch {
	case len(s.open) >= api.MaxDepth:
		return api.ErrDepth
	case s.seen >= api.MaxNodes:
		return api.ErrSize
	case len(s.open) >= s.limits.Depth:
		return api.ErrDepth
	case s.seen >= s.limits.Nodes:
		return api.ErrSize
	}
	return api.OK
}

// follows reports whether an event of a kind may follow those that were taken.
func (s *stream) follows(kind int) bool {
	if len(s.open) == 0 {
		return !s.complete && begins(kind)
	}
	f := s.top()
	switch kind {
	case api.EvKey, api.EvMapEnd:
		return f.fields && !f.keyed
	case api.EvListEnd:
		return !f.fields
	}
	return !f.fields || f.keyed
}

// reached reports whether the value that begins next is selected or on the way.
func (s *stream) reached() bool {
	k := len(s.open)
	if k == 0 {
		return true
	}
	f := s.top()
	if !f.onWay {
		return false
	}
	step := s.steps[k-1]
	if step.Each {
		return true
	}
	if f.fields {
		return step.At == api.Step{Key: f.key}
	}
	return step.At == api.Step{ByIndex: true, Index: f.count}
}

// begin takes an event that begins a value.
func (s *stream) begin(e api.Event) (api.Value, bool, api.Errno) {
	s.seen++
	k := len(s.open)
	reached := s.Builder == nil && s.reached()
	if k > 0 {
		f := s.top()
		f.found = f.found || reached
		f.count++
	}
	if reached && k == len(s.steps) {
		s.Builder, s.held = event.New(), 0
	}
	onWay := reached && k < len(s.steps)
	if onWay {
		if err := s.checkKind(e, s.steps[k]); err != api.OK {
			return api.Value{}, false, err
		}
	}
	if e.Kind == api.EvScalar {
		s.finish()
		if onWay {
			return s.missing(k)
		}
		return s.hold(e)
	}
	f := frame{onWay: onWay}
	if e.Kind == api.EvMapStart {
		f.fields, f.keys = true, map[string]bool{}
	}
	s.open = append(s.open, f)
	return s.hold(e)
}

// checkKind checks whether a step can be applied to a value that begins.
func (s *stream) checkKind(e api.Event, step api.Select) api.Errno {
	switch {
	case e.Kind == api.EvScalar && e.Val.Kind != api.VNull,
		e.Kind == api.EvListStart && !step.Each && !step.At.ByIndex,
		e.Kind == api.EvMapStart && !step.Each && step.At.ByIndex:
		return api.ErrKind
	}
	return api.OK
}

// missing applies the steps from one on to null.
func (s *stream) missing(from int) (api.Value, bool, api.Errno) {
	for _, step := range s.steps[from:] {
		if step.Each {
			return api.Value{}, false, api.ErrKind
		}
	}
	return api.Value{}, true, api.OK
}

// hold adds an event to the selected value, if there is one. It returns the
// value if it is complete.
func (s *stream) hold(e api.Event) (api.Value, bool, api.Errno) {
	if s.Builder == nil {
		return api.Value{}, false, api.OK
	}
	if begins(e.Kind) {
		s.held++
	}
	if err := s.Add(e); err != api.OK {
		return api.Value{}, false, err
	}
	v, ok := s.Done()
	if ok {
		s.Builder = nil
	}
	return v, ok, api.OK
}

// finish ends a value.
func (s *stream) finish() {
	if len(s.open) == 0 {
		s.complete = true
		return
	}
	s.top().keyed = false
}

// end takes an event that ends a list or a map.
func (s *stream) end(e api.Event) (api.Value, bool, api.Errno) {
	f := *s.top()
	s.open = s.open[:len(s.open)-1]
	s.finish()
	k := len(s.open)
	if f.onWay && !f.found && !s.steps[k].Each {
		return s.missing(k + 1)
	}
	return s.hold(e)
}
