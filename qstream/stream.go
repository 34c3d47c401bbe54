package qstream

import (
	"datakit/api"
	"datakit/event"
	"datakit/follow"
)

// frame says what the selection has to do with a list or a map that is open.
type frame struct {
	onWay bool // the step of the selection is applied to it
	found bool // what the step names has begun
}

// stream follows the events of a value to the values that are selected. It holds
// a selected value in a builder, and of all others only what is open.
type stream struct {
	*event.Builder
	limits api.Limits
	steps  []api.Select
	events follow.Stream
	frames []frame
	held   int // values that have begun in the selected value
}

// take takes an event. It returns a value that is selected and complete.
func (s *stream) take(e api.Event) (api.Value, bool, api.Errno) {
	if err := s.check(e); err != api.OK {
		return api.Value{}, false, err
	}
	switch {
	case follow.Begins(e.Kind):
		return s.begin(e)
	case e.Kind == api.EvKey:
		s.events.Take(e)
		return s.hold(e)
	}
	return s.end(e)
}

func (s *stream) top() *frame { return &s.frames[len(s.frames)-1] }

// check returns the error that a builder of the whole value would return, or
// that of the limits.
func (s *stream) check(e api.Event) api.Errno {
	err := s.events.Check(e)
	switch {
	case err != api.OK || !follow.Begins(e.Kind):
		return err
	case len(s.frames) >= s.limits.Depth:
		return api.ErrDepth
	case s.events.Seen >= s.limits.Nodes:
		return api.ErrSize
	}
	return api.OK
}

// reached reports whether the value that begins next is selected or on the way.
func (s *stream) reached() bool {
	k := len(s.frames)
	if k == 0 {
		return true
	}
	if !s.top().onWay {
		return false
	}
	step, f := s.steps[k-1], s.events.Top()
	if step.Each {
		return true
	}
	if f.Fields {
		return step.At == api.Step{Key: f.Key}
	}
	return step.At == api.Step{ByIndex: true, Index: f.Count}
}

// begin takes an event that begins a value.
func (s *stream) begin(e api.Event) (api.Value, bool, api.Errno) {
	k := len(s.frames)
	reached := s.Builder == nil && s.reached()
	if k > 0 {
		s.top().found = s.top().found || reached
	}
	s.events.Take(e)
	if reached && k == len(s.steps) {
		s.Builder, s.held = event.New(), 0
	}
	onWay := reached && k < len(s.steps)
	if onWay {
		if err := s.checkKind(e, s.steps[k]); err != api.OK {
			return api.Value{}, false, err
		}
	}
	if e.Kind != api.EvScalar {
		s.frames = append(s.frames, frame{onWay: onWay})
	} else if onWay {
		return s.missing(k)
	}
	return s.hold(e)
}

// checkKind checks whether a step can be applied to a value that begins.
func (s *stream) checkKind(e api.Event, step api.Select) api.Errno {
	switch {
	case e.Kind == api.EvScalar && e.Val.Kind != api.VNull,
		e.Kind == api.EvListStart && !step.Each && !step.At.ByIndex,
		e.Kind == api.EvMapStart && !step.Each && step.At.ByIndex:
		return api.ErrKind
	}
	return api.OK
}

// missing applies the steps from one on to null.
func (s *stream) missing(from int) (api.Value, bool, api.Errno) {
	for _, step := range s.steps[from:] {
		if step.Each {
			return api.Value{}, false, api.ErrKind
		}
	}
	return api.Value{}, true, api.OK
}

// hold adds an event to the selected value, if there is one. It returns the
// value if it is complete.
func (s *stream) hold(e api.Event) (api.Value, bool, api.Errno) {
	if s.Builder == nil {
		return api.Value{}, false, api.OK
	}
	if follow.Begins(e.Kind) {
		s.held++
	}
	if err := s.Add(e); err != api.OK {
		return api.Value{}, false, err
	}
	v, ok := s.Done()
	if ok {
		s.Builder = nil
	}
	return v, ok, api.OK
}

// end takes an event that ends a list or a map.
func (s *stream) end(e api.Event) (api.Value, bool, api.Errno) {
	f := *s.top()
	s.frames = s.frames[:len(s.frames)-1]
	s.events.Take(e)
	k := len(s.frames)
	if f.onWay && !f.found && !s.steps[k].Each {
		return s.missing(k + 1)
	}
	return s.hold(e)
}
