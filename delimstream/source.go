package delimstream

import (
	"strings"

	"datakit/api"
	"datakit/grid"
	"datakit/window"
)

// fault is an error and its offset; there is none if err is OK.
type fault struct {
	at  int
	err api.Errno
}

// What comes next.
const (
	atRecord = iota // the first byte of a record
	atCell          // the first byte of a cell
	inPlain
	inQuoted
	afterQuote // which another quotation mark may follow
	afterCell
	afterReturn
)

// source divides a file into cells and records. Its window holds the bytes of
// the cell that has begun.
type source struct {
	*window.Window
	dialect api.Dialect
	limits  api.Limits
	nodes   int
	mode    int
	at      int   // the bytes that were taken
	begin   int   // the offset of the cell
	waiting fault // an error at the first byte of the cell, which may be too long as well
	cells   int   // cells of the record that have begun
	columns int
	done    int // records that have ended
	header  []string
	names   map[string]bool
	list    []api.Event
}

// events returns the events that were not returned yet.
func (s *source) events() []api.Event {
	list := s.list
	s.list = nil
	return list
}

func (s *source) add(e api.Event) { s.list = append(s.list, e) }

func (s *source) inHeader() bool { return s.dialect.Header && s.done == 0 }

// take takes some bytes of a part that is not empty, and returns how many.
func (s *source) take(part string) (int, fault) {
	switch s.mode {
	case atRecord:
		s.cells = 0
		s.waiting = fault{s.at, s.count(2)}
		s.beginCell()
	case atCell:
		s.mode = inPlain
		if part[0] == s.dialect.Quote {
			s.mode = inQuoted
			return 1, s.hold(part[:1])
		}
	case inPlain:
		return s.plain(part)
	case inQuoted:
		n := strings.IndexByte(part, s.dialect.Quote) + 1
		if n == 0 {
			n = len(part)
		} else {
			s.mode = afterQuote
		}
		return n, s.hold(part[:n])
	case afterQuote:
		if part[0] == s.dialect.Quote {
			s.mode = inQuoted
			return 1, s.hold(part[:1])
		}
		return 0, s.endCell()
	default:
		s.at++
		return 1, s.follow(part[0])
	}
	return 0, fault{}
}

// count accounts for a value that begins here.
func (s *source) count(depth int) api.Errno {
	switch {
	case s.inHeader():
		return api.OK
	case depth > s.limits.Depth:
		return api.ErrDepth
	case s.nodes >= s.limits.Nodes:
		return api.ErrSize
	}
	s.nodes++
	return api.OK
}

func (s *source) beginCell() {
	s.mode = atCell
	s.begin = s.at
	if s.waiting.err == api.OK && s.done > 0 && s.cells == s.columns {
		s.waiting = fault{s.at, api.ErrSize}
	}
	if s.waiting.err == api.OK {
		s.waiting = fault{s.at, s.count(3)}
	}
	s.cells++
}

// hold takes bytes of a cell.
func (s *source) hold(bytes string) fault {
	if err := s.Feed(bytes); err != api.OK {
		return fault{s.begin, err}
	}
	s.at += len(bytes)
	return fault{}
}

func (s *source) plain(part string) (int, fault) {
	n := 0
	for n < len(part) && part[n] != s.dialect.Sep && part[n] != s.dialect.Quote && part[n] != '\n' && part[n] != '\r' {
		n++
	}
	if err := s.hold(part[:n]); err.err != api.OK || n == len(part) {
		return n, err
	}
	if part[n] == s.dialect.Quote && s.waiting.err == api.OK {
		return n, fault{s.at, api.ErrSyntax}
	}
	return n, s.endCell()
}

// endCell makes the events of a cell.
func (s *source) endCell() fault {
	s.mode = afterCell
	if s.waiting.err != api.OK {
		return s.waiting
	}
	text, _ := s.Take(s.Len())
	quoted := text != "" && text[0] == s.dialect.Quote
	if quoted {
		quote := string(rune(s.dialect.Quote))
		text = strings.ReplaceAll(text[1:len(text)-1], quote+quote, quote)
	}
	if s.inHeader() {
		return s.addColumn(text)
	}
	if len(text) > api.MaxText {
		return fault{s.begin, api.ErrSize}
	}
	if s.cells == 1 {
		s.add(api.Event{Kind: s.kindOfRecord(api.EvListStart, api.EvMapStart)})
	}
	if s.dialect.Header {
		s.add(api.Event{Kind: api.EvKey, Key: s.header[s.cells-1]})
	}
	s.add(api.Event{Kind: api.EvScalar, Val: grid.Cell(text, quoted, s.dialect)})
	return fault{}
}

func (s *source) kindOfRecord(list, fields int) int {
	if s.dialect.Header {
		return fields
	}
	return list
}

func (s *source) addColumn(name string) fault {
	if len(name) > api.MaxKey {
		return fault{s.begin, api.ErrSize}
	}
	if s.names[name] {
		return fault{s.begin, api.ErrExists}
	}
	s.names[name] = true
	s.header = append(s.header, name)
	return fault{}
}

// follow takes a byte after a cell, or after a carriage return there.
func (s *source) follow(c byte) fault {
	at := s.at - 1
	switch {
	case s.mode == afterReturn && c == '\n':
		return s.endRecord(at - 1)
	case s.mode == afterReturn:
		return fault{at - 1, api.ErrSyntax}
	case c == s.dialect.Sep:
		s.beginCell()
	case c == '\n':
		return s.endRecord(at)
	case c == '\r':
		s.mode = afterReturn
	default:
		return fault{at, api.ErrSyntax}
	}
	return fault{}
}

// endRecord ends a record whose line end begins at an offset.
func (s *source) endRecord(at int) fault {
	if s.done > 0 && s.cells < s.columns {
		return fault{at, api.ErrSize}
	}
	if !s.inHeader() {
		s.add(api.Event{Kind: s.kindOfRecord(api.EvListEnd, api.EvMapEnd)})
	}
	s.columns = s.cells
	s.done++
	s.mode = atRecord
	return fault{}
}

// end says that the source ends.
func (s *source) end() fault {
	switch s.mode {
	case atRecord:
		return fault{}
	case inQuoted, afterReturn:
		if s.waiting.err != api.OK {
			return s.waiting
		}
		return fault{s.at, api.ErrTruncated}
	case atCell, inPlain, afterQuote:
		if err := s.endCell(); err.err != api.OK {
			return err
		}
	}
	return s.endRecord(s.at)
}
