package script

import (
	"strconv"
	"strings"

	"datakit/access"
	"datakit/api"
	"datakit/canon"
	"datakit/convert"
	"datakit/diff"
	"datakit/edit"
	"datakit/event"
	"datakit/explain"
	"datakit/index"
	"datakit/infer"
	"datakit/layout"
	"datakit/limit"
	"datakit/merge"
	"datakit/module"
	"datakit/patch"
	"datakit/path"
	"datakit/qanalyze"
	"datakit/qeval"
	"datakit/qparse"
	"datakit/qstream"
	"datakit/reader"
	"datakit/schema"
	"datakit/span"
	"datakit/vcode"
	"datakit/writer"
)

// fuel is that of a query.
const fuel = 20000

const done = "ok\n"

// command is a command: the kinds of its arguments, and what it does. A command
// that fails changes nothing.
type command struct {
	kinds string
	do    func(s *Session, a []argument) (string, failure)
}

// commands returns the commands by their names.
func commands() map[string]command {
	return map[string]command{
		"load":    {"TFX", load},
		"show":    {"S", show},
		"value":   {"S", values},
		"get":     {"SP", get},
		"set":     {"SPV", set},
		"insert":  {"SPV", insert},
		"remove":  {"SP", remove},
		"rename":  {"SPX", rename},
		"format":  {"S", format},
		"compact": {"S", compact},
		"notes":   {"S", notes},
		"convert": {"SFT", transform},
		"run":     {"SX", run},
		"stream":  {"SX", stream},
		"check":   {"SS", check},
		"infer":   {"ST", generalize},
		"diff":    {"SST", compare},
		"patch":   {"SS", apply},
		"merge":   {"SSST", join},
		"index":   {"SN", list},
		"drop":    {"S", drop},
	}
}

// slot returns the slot that an argument names.
func (s *Session) slot(a argument) *slot { return &s.slots[a.number] }

func load(s *Session, a []argument) (string, failure) {
	return done, s.take(a[0].number, a[1].number, a[2].text)
}

func show(s *Session, a []argument) (string, failure) {
	text, err := written(s.slot(a[0]).source())
	return "ok " + text + "\n", because(err)
}

func values(s *Session, a []argument) (string, failure) {
	text, err := canon.Text(s.slot(a[0]).val)
	return "ok " + text + "\n", because(err)
}

func get(s *Session, a []argument) (string, failure) {
	v, err := access.Get(s.slot(a[0]).val, a[1].path)
	if err != api.OK {
		return "", because(err)
	}
	text, err := canon.Text(v)
	return "ok " + text + "\n", because(err)
}

func set(s *Session, a []argument) (string, failure) {
	l, err := edit.Set(s.slot(a[0]).doc, a[1].path, a[2].val, reader.Usual())
	return s.change(a[0], l, err)
}

func insert(s *Session, a []argument) (string, failure) {
	l, err := edit.Insert(s.slot(a[0]).doc, a[1].path, a[2].val, reader.Usual())
	return s.change(a[0], l, err)
}

func remove(s *Session, a []argument) (string, failure) {
	l, err := edit.Remove(s.slot(a[0]).doc, a[1].path, reader.Usual())
	return s.change(a[0], l, err)
}

func rename(s *Session, a []argument) (string, failure) {
	l, err := edit.Rename(s.slot(a[0]).doc, a[1].path, a[2].text, reader.Usual())
	return s.change(a[0], l, err)
}

// change applies edits to the source of a slot.
func (s *Session) change(a argument, l []api.Edit, err api.Errno) (string, failure) {
	if err != api.OK {
		return "", because(err)
	}
	x := s.slot(a)
	src, err := span.Apply(x.source(), l)
	if err != api.OK {
		return "", because(err)
	}
	return done, s.take(a.number, x.doc.Format, src)
}

func format(s *Session, a []argument) (string, failure) {
	x := s.slot(a[0])
	src, pos, err := layout.Format(x.doc.Format, x.source(), writer.Usual(), reader.Usual())
	if err != api.OK {
		return "", failure{err: err, pos: pos}
	}
	return done, s.take(a[0].number, x.doc.Format, src)
}

func compact(s *Session, a []argument) (string, failure) {
	x := s.slot(a[0])
	src, pos, err := layout.Compact(x.doc.Format, x.source(), reader.Usual())
	if err != api.OK {
		return "", failure{err: err, pos: pos}
	}
	return done, s.take(a[0].number, x.doc.Format, src)
}

func notes(s *Session, a []argument) (string, failure) {
	x := s.slot(a[0])
	l, pos, err := layout.Notes(x.doc.Format, x.source(), reader.Usual())
	if err != api.OK {
		return "", failure{err: err, pos: pos}
	}
	var out strings.Builder
	for _, note := range l {
		text, err := written(note)
		if err != api.OK {
			return "", because(err)
		}
		out.WriteString("note " + text + "\n")
	}
	return out.String() + done, failure{}
}

// lines puts a word before each line of a text.
func lines(word, text string) string {
	var out strings.Builder
	for line := range strings.Lines(text) {
		out.WriteString(word + " " + line)
	}
	return out.String()
}

func transform(s *Session, a []argument) (string, failure) {
	x := s.slot(a[0])
	src, losses, pos, err := convert.Convert(x.doc.Format, a[1].number, x.source(), reader.Usual(), writer.Usual())
	if err != api.OK {
		return "", failure{err: err, pos: pos}
	}
	return lines("loss", convert.Report(losses)) + done, s.take(a[2].number, a[1].number, src)
}

func run(s *Session, a []argument) (string, failure) {
	out, _ := qeval.Query(a[1].text, s.slot(a[0]).val, fuel)
	return outputs(out)
}

func stream(s *Session, a []argument) (string, failure) {
	m, _, err := qparse.Module("main", a[1].text)
	if err != api.OK {
		return "", because(err)
	}
	p, err := module.Link(m, nil)
	if err != api.OK {
		return "", because(err)
	}
	plan, err := qanalyze.Plan(p)
	if err != api.OK {
		return "", because(err)
	}
	return outputs(qstream.Run(plan, event.Of(s.slot(a[0]).val), limit.Usual(), fuel))
}

// outputs returns the answer for an outcome.
func outputs(o api.Outcome) (string, failure) {
	var out strings.Builder
	for _, v := range o.Out {
		text, err := canon.Text(v)
		if err != api.OK {
			return "", because(err)
		}
		out.WriteString("out " + text + "\n")
	}
	switch o.Err {
	case api.OK:
		return out.String() + done, failure{}
	case api.ErrUser:
		text, err := canon.Text(o.Val)
		return out.String() + "error " + o.Err.Error() + " " + text + "\n", because(err)
	}
	return out.String() + because(o.Err).answer(), failure{}
}

func check(s *Session, a []argument) (string, failure) {
	x, err := schema.Read(s.slot(a[1]).val)
	if err != api.OK {
		return "", because(err)
	}
	c, err := vcode.Compile(x)
	if err != api.OK {
		return "", because(err)
	}
	v := s.slot(a[0]).val
	report, err := explain.Explain(x, v)
	if err != api.OK {
		return "", because(err)
	}
	return lines("fail", explain.Text(report)) + "ok " + strconv.FormatBool(vcode.Run(c, v)) + "\n", failure{}
}

func generalize(s *Session, a []argument) (string, failure) {
	v := s.slot(a[0]).val
	if v.Kind != api.VList {
		return "", because(api.ErrKind)
	}
	x, err := infer.Infer(v.List...)
	if err != api.OK {
		return "", because(err)
	}
	v, err = schema.Write(api.Schemas{Root: x})
	if err != api.OK {
		return "", because(err)
	}
	return done, s.write(a[1], v)
}

// write makes a slot hold the source of a value.
func (s *Session) write(a argument, v api.Value) failure {
	src, err := writer.Write(api.FmtBrace, v, writer.Usual())
	if err != api.OK {
		return because(err)
	}
	return s.take(a.number, api.FmtBrace, src)
}

func compare(s *Session, a []argument) (string, failure) {
	l, err := diff.Make(s.slot(a[0]).val, s.slot(a[1]).val)
	if err != api.OK {
		return "", because(err)
	}
	v, err := patch.Write(l)
	if err != api.OK {
		return "", because(err)
	}
	return "ok " + strconv.Itoa(len(l)) + "\n", s.write(a[2], v)
}

func apply(s *Session, a []argument) (string, failure) {
	l, err := patch.Read(s.slot(a[1]).val)
	if err != api.OK {
		return "", because(err)
	}
	x := s.slot(a[0])
	src, i, err := edit.Apply(x.doc.Format, x.source(), l, reader.Usual())
	if err != api.OK {
		return "", failure{err: err, index: i, among: true}
	}
	return done, s.take(a[0].number, x.doc.Format, src)
}

func join(s *Session, a []argument) (string, failure) {
	v, conflicts := merge.Three(s.slot(a[0]).val, s.slot(a[1]).val, s.slot(a[2]).val)
	var out strings.Builder
	for _, c := range conflicts {
		out.WriteString("conflict " + path.Text(c.Path) + "\n")
	}
	return out.String() + done, s.write(a[3], v)
}

func list(s *Session, a []argument) (string, failure) {
	x := s.slot(a[0])
	built, _, err := index.Build(x.doc.Format, x.source(), a[1].number, reader.Usual())
	if err != api.OK {
		return "", because(err)
	}
	text, err := index.Text(built)
	if err != api.OK {
		return "", because(err)
	}
	return lines("entry", text) + done, failure{}
}

func drop(s *Session, a []argument) (string, failure) {
	*s.slot(a[0]) = slot{}
	return done, failure{}
}
