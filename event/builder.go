package event

import (
	"datakit/api"
	"datakit/path"
	"datakit/utf"
	"datakit/value"
)

// Builder makes a value of its events.
type Builder struct {
	open     []frame
	root     api.Value
	complete bool
	failed   bool
	seen     int // values that have begun
}

// frame is a list or a map that has begun and not ended.
type frame struct {
	v     api.Value
	keyed bool // a key was taken, and its value was not
	keys  map[string]bool
}

// New returns a builder.
func New() *Builder { return &Builder{} }

// Add adds an event.
func (b *Builder) Add(e api.Event) api.Errno {
	if b == nil || b.failed {
		return api.ErrState
	}
	err := b.check(e)
	if err != api.OK {
		b.failed = true
		return err
	}
	b.take(e)
	return api.OK
}

func (b *Builder) check(e api.Event) api.Errno {
	if err := checkAlone(e); err != api.OK {
		return err
	}
	if !b.follows(e.Kind) {
		return api.ErrState
	}
	switch {
	case e.Kind == api.EvKey && b.top().keys[e.Key]:
		return api.ErrExists
	case begins(e.Kind) && len(b.open) == api.MaxDepth:
		return api.ErrDepth
	case begins(e.Kind) && b.seen == api.MaxNodes:
		return api.ErrSize
	}
	return api.OK
}

// begins reports whether events of a kind begin a value.
func begins(kind int) bool {
	return kind == api.EvScalar || kind == api.EvListStart || kind == api.EvMapStart
}

// checkAlone checks an event wherever it stands.
func checkAlone(e api.Event) api.Errno {
	if e.Kind < api.EvScalar || e.Kind > api.EvKey || e.Kind != api.EvKey && e.Key != "" {
		return api.ErrKind
	}
	if e.Kind == api.EvScalar {
		if !value.Scalar(e.Val) {
			return api.ErrKind
		}
		return value.Check(e.Val)
	}
	if e.Val.Kind != api.VNull || value.Check(e.Val) != api.OK {
		return api.ErrKind
	}
	if !utf.Valid(e.Key) {
		return api.ErrText
	}
	if len(e.Key) > api.MaxKey {
		return api.ErrSize
	}
	return api.OK
}

func (b *Builder) top() *frame { return &b.open[len(b.open)-1] }

// follows reports whether an event of a kind may follow those that were taken.
func (b *Builder) follows(kind int) bool {
	if len(b.open) == 0 {
		return !b.complete && begins(kind)
	}
	inMap := b.top().v.Kind == api.VMap
	switch kind {
	case api.EvKey, api.EvMapEnd:
		return inMap && !b.top().keyed
	case api.EvListEnd:
		return !inMap
	}
	return !inMap || b.top().keyed
}

// take adds an event that may follow.
func (b *Builder) take(e api.Event) {
	v := value.Copy(e.Val)
	if begins(e.Kind) {
		b.seen++
	}
	switch e.Kind {
	case api.EvKey:
		f := b.top()
		f.keys[e.Key] = true
		f.v.Fields = append(f.v.Fields, api.Field{Key: e.Key})
		f.keyed = true
	case api.EvListStart:
		b.open = append(b.open, frame{v: api.Value{Kind: api.VList}})
	case api.EvMapStart:
		b.open = append(b.open, frame{v: api.Value{Kind: api.VMap}, keys: map[string]bool{}})
	case api.EvListEnd, api.EvMapEnd:
		v = b.top().v
		b.open = b.open[:len(b.open)-1]
		fallthrough
	case api.EvScalar:
		b.finish(v)
	}
}

// finish puts a complete value at its place.
func (b *Builder) finish(v api.Value) {
	if len(b.open) == 0 {
		b.root, b.complete = v, true
		return
	}
	f := b.top()
	if f.v.Kind == api.VList {
		f.v.List = append(f.v.List, v)
		return
	}
	f.v.Fields[len(f.v.Fields)-1].Val = v
	f.keyed = false
}

// Done returns the value if it is complete.
func (b *Builder) Done() (api.Value, bool) {
	if b == nil || !b.complete {
		return api.Value{}, false
	}
	return value.Copy(b.root), true
}

// Depth returns the number of open lists and maps.
func (b *Builder) Depth() int {
	if b == nil {
		return 0
	}
	return len(b.open)
}

// Path returns the path of what comes next.
func (b *Builder) Path() []api.Step {
	if b == nil {
		return nil
	}
	var p []api.Step
	for _, f := range b.open {
		if f.v.Kind == api.VList {
			p = append(p, path.At(len(f.v.List)))
		} else if f.keyed {
			p = append(p, path.Key(f.v.Fields[len(f.v.Fields)-1].Key))
		}
	}
	return p
}
