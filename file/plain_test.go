package file_test

import (
	"bytes"
	"slices"
	"strings"

	"cairn/api"
	"cairn/client"
)

// refusedPart leaves an operation at the part that was refused.
type refusedPart api.Errno

// inWords does a composite operation from its first part to its last, by the chapter's words; ask does one part. wrong: a rule that is broken.
func inWords(wrong string, o api.Op, b, left int, ask func(api.Op) api.Result) (result api.Result) {
	defer func() {
		switch x := recover().(type) {
		case nil:
		case refusedPart:
			result = api.Result{Err: api.Errno(x)}
		default:
			panic(x)
		}
	}()
	do := func(part api.Op) api.Result {
		r := ask(part)
		if r.Err != api.OK && (wrong != "a refused block is passed over" || !isBlock(part)) {
			panic(refusedPart(r.Err))
		}
		return r
	}
	e := do(lookup(o.Name)).Entry
	wanted := partsInWords(o, e, b)
	switch wrong {
	case "worn one early":
		wanted++
	case "worn one late":
		wanted--
	}
	if wanted > left {
		return api.Result{Err: api.ErrWorn}
	}
	return words{wrong, o, b, e, do}.result()
}

// partsInWords counts the parts that are asked for behind the Lookup, all being OK.
func partsInWords(o api.Op, e api.Entry, b int) int {
	if isPart(o) {
		return 0
	}
	n := 0
	words{"", o, b, e, func(part api.Op) api.Result {
		n++
		if part.Kind == api.ORead {
			return api.Result{Data: make([]byte, b)}
		}
		return api.Result{Entry: entry(part.Name, e.File, 0)}
	}}.result()
	return n
}

// words are those of P1504's table, behind the Lookup.
type words struct {
	wrong string
	o     api.Op
	b     int
	e     api.Entry
	do    func(api.Op) api.Result
}

func (w words) result() api.Result {
	switch w.o.Kind {
	case api.OReadAt:
		return w.readAt()
	case api.OWriteAt:
		return w.writeAt()
	case api.OTruncate:
		return w.truncate()
	case api.OCopy:
		return w.copy()
	}
	panic("no composite")
}

func (w words) readAt() api.Result {
	o, b, f := w.o, w.b, w.e.File
	end := min(o.At+o.N, w.e.Size)
	if w.wrong == "reads beyond the size" {
		end = o.At + o.N
	}
	first := o.At / b
	if w.wrong == "reads from the first block on" {
		first = 0
	}
	var all []byte
	if o.At < end || w.wrong == "reads at least one" {
		for i := first; i <= (max(end, o.At+1)-1)/b; i++ {
			all = append(all, w.do(read(f, i)).Data...)
		}
	}
	if o.At >= end {
		return api.Result{Entry: w.e}
	}
	return api.Result{Data: all[o.At-first*b : end-first*b], Entry: w.e}
}

func (w words) writeAt() api.Result {
	o, b, f, last := w.o, w.b, w.e.File, w.e
	if len(o.Data) == 0 && w.wrong != "grows by nothing" {
		return api.Result{Entry: w.e}
	}
	end := o.At + len(o.Data)
	for i := o.At / b; i <= (end-1)/b && len(o.Data) > 0; i++ {
		block := make([]byte, b)
		partly := i*b < o.At || i*b+b > end
		switch w.wrong {
		case "writes over the first bytes":
			partly = i*b+b > end
		case "writes over the last bytes":
			partly = i*b < o.At
		case "the last block is not read beyond the size":
			partly = partly && i*b < w.e.Size
		case "reads all":
			partly = true
		}
		if partly {
			copy(block, w.do(read(f, i)).Data)
		}
		for k := range block {
			if at := i*b + k; o.At <= at && at < end {
				block[k] = o.Data[at-o.At]
			}
		}
		w.do(write(f, i, block...))
	}
	if end > w.e.Size || w.wrong == "grows always" {
		grown := grow(o.Name, f, end)
		if w.wrong == "sets the size" {
			grown.Kind = api.OSetSize
		}
		last = w.do(grown).Entry
	}
	if w.wrong == "the Lookup's entry" {
		last = w.e
	}
	return api.Result{N: len(o.Data), Entry: last}
}

func (w words) truncate() api.Result {
	o, b, f, s, last := w.o, w.b, w.e.File, w.e.Size, w.e
	if w.wrong == "the size first" && o.N != s {
		last = w.do(setSize(o.Name, f, o.N)).Entry
	}
	if o.N < s && w.wrong != "no zeros" {
		from, to, by := (s-1)/b, o.N/b, -1
		if w.wrong == "zeros from the left" {
			from, to, by = to, from, 1
		}
		for i := from; i != to+by; i += by {
			block := make([]byte, b)
			if i*b < o.N {
				if w.wrong == "the block of the new end stays" {
					continue
				}
				copy(block, w.do(read(f, i)).Data)
			}
			for k := range block {
				if i*b+k >= o.N {
					block[k] = 0
				}
			}
			w.do(write(f, i, block...))
		}
	}
	if (o.N != s || w.wrong == "sets what it is") && w.wrong != "the size first" {
		last = w.do(setSize(o.Name, f, o.N)).Entry
	}
	return api.Result{Entry: last}
}

func (w words) copy() api.Result {
	o, b, f, s := w.o, w.b, w.e.File, w.e.Size
	var blocks [][]byte
	if w.wrong == "reads ahead of the name" {
		for i := 0; i*b < s; i++ {
			blocks = append(blocks, w.do(read(f, i)).Data)
		}
	}
	last := w.do(create(o.Other)).Entry
	g := last.File
	for i := 0; i*b < s; i++ {
		if w.wrong != "reads ahead of the name" {
			blocks = append(blocks, w.do(read(f, i)).Data)
		}
		w.do(write(g, i, blocks[i]...))
	}
	if s > 0 || w.wrong == "an empty copy grows" {
		last = w.do(grow(o.Other, g, s)).Entry
	}
	return api.Result{Entry: last}
}

// plain is a user by the chapter's words: it begins anew behind each part, with what the parts have returned till then.
type plain struct {
	c       *client.Client
	tell    func(api.Line)
	wrong   string
	o       api.Op
	left    int
	results []api.Result
	state   string // "", "pending", "returned"
	result  api.Result
}

func newPlain(c *client.Client, wrong string, tell func(api.Line)) *plain {
	return &plain{c: c, wrong: wrong, tell: tell}
}

// names is what a kind names, as the documents' tables tell it.
func names(kind int) string {
	return map[int]string{
		api.OCreate: "Name", api.ORemove: "Name", api.OLookup: "Name", api.OList: "N", api.OSetSize: "Name, File, N", api.OGrow: "Name, File, N",
		api.OReplace: "Name, File, New, N", api.ORead: "File, N", api.OWrite: "File, N, Data",
		api.OReadAt: "Name, At, N", api.OWriteAt: "Name, At, Data", api.OTruncate: "Name, N", api.OCopy: "Name, Other",
	}[kind]
}

func isNamed(kind int, field string) bool {
	return slices.Contains(strings.Split(names(kind), ", "), field)
}

// namesAll: nothing is there that the kind does not name.
func namesAll(o api.Op) bool {
	there := map[string]bool{"Name": o.Name != "", "Other": o.Other != "", "File": o.File != fileOf(0, 0), "New": o.New != fileOf(0, 0), "At": o.At != 0, "N": o.N != 0, "Data": len(o.Data) > 0}
	for field, is := range there {
		if is && !isNamed(o.Kind, field) {
			return false
		}
	}
	return true
}

func isName(s string) bool {
	for i := range len(s) {
		if s[i] == 0 || s[i] == '/' {
			return false
		}
	}
	return len(s) > 0 && len(s) < 256
}

// refusedAlone is what an idle client says at once of an operation: P1402 and P1502.
func refusedAlone(c api.Config, o api.Op, worn bool) api.Errno {
	most := 1 << 20 * c.Block
	isFile := func(f api.File) bool {
		return f.Client > 0 && f.Client < 256 && f.Op > 0 && f.Op <= 1<<40
	}
	beyond := func(n, m int) bool { return n < 0 || m < 0 || uint(n)+uint(m) > uint(most) }
	for _, x := range []struct {
		is  bool
		err api.Errno
	}{
		{names(o.Kind) == "" || !namesAll(o), api.ErrOp},
		{worn, api.ErrWorn},
		{isNamed(o.Kind, "Name") && !isName(o.Name), api.ErrName},
		{isNamed(o.Kind, "File") && !isFile(o.File), api.ErrArg},
		{isNamed(o.Kind, "New") && !isFile(o.New), api.ErrArg},
		{o.Kind == api.OList && (o.N < 0 || o.N >= c.Buckets), api.ErrBucket},
		{isBlock(o) && (o.N < 0 || o.N >= 1<<20), api.ErrIndex},
		{o.Kind == api.OWrite && len(o.Data) != c.Block, api.ErrBlock},
		{(o.Kind == api.OSetSize || o.Kind == api.OGrow || o.Kind == api.OReplace) && beyond(o.N, 0), api.ErrSize},
		{(o.Kind == api.OReadAt || o.Kind == api.OTruncate) && beyond(o.At, o.N), api.ErrSize},
		{o.Kind == api.OWriteAt && beyond(o.At, len(o.Data)), api.ErrSize},
		{o.Kind == api.OCopy && !isName(o.Other), api.ErrName},
	} {
		if x.is {
			return x.err
		}
	}
	return api.OK
}

func (p *plain) Invoke(o api.Op) ([]api.Packet, api.Errno) {
	switch {
	case p.c.Fallen():
		return nil, api.ErrFallen
	case p.Pending():
		return nil, api.ErrBusy
	}
	if err := refusedAlone(p.c.Config(), o, p.c.Number() == api.MaxNum); err != api.OK {
		return nil, err
	}
	part := o
	if !isPart(o) {
		part = lookup(o.Name)
	}
	list, err := p.c.Invoke(part)
	if err != api.OK {
		panic(err)
	}
	o.Data = bytes.Clone(o.Data)
	p.o, p.left, p.results, p.state, p.result = o, api.MaxNum-p.c.Number(), nil, "pending", api.Result{}
	if !isPart(o) && p.wrong != "no HBegin" {
		p.tell(api.Line{Kind: api.HBegin, Client: p.c.Id(), Op: o})
	}
	p.tellInvoke(part)
	return append(list, p.onward()...), api.OK
}

func (p *plain) tellInvoke(part api.Op) {
	p.tell(api.Line{Kind: api.HInvoke, Client: p.c.Id(), Number: p.c.Number(), Op: part})
}

func (p *plain) tellNews() {
	for k, x := range p.c.News() {
		p.tell(api.Line{Kind: api.HLearn, Key: k, Command: x})
	}
}

// onward does what comes next as long as a part has returned.
func (p *plain) onward() []api.Packet {
	var all []api.Packet
	for {
		if p.wrong != "learned behind the return" {
			p.tellNews()
		}
		r, done := p.c.Done()
		if p.state != "pending" || !done {
			p.tellNews()
			return all
		}
		p.tell(api.Line{Kind: api.HReturn, Client: p.c.Id(), Number: p.c.Number(), Result: r})
		p.tellNews()
		p.results = append(p.results, r)
		part, result, ends := p.next()
		if ends {
			p.state, p.result = "returned", result
			if p.wrong == "the last part's Instance" {
				p.result.Instance = r.Instance
			}
			if !isPart(p.o) {
				p.tell(api.Line{Kind: api.HEnd, Client: p.c.Id(), Result: p.result})
			}
			return all
		}
		list, err := p.c.Invoke(part)
		if err != api.OK { // by a rule that is broken
			return all
		}
		all = append(all, list...)
		p.tellInvoke(part)
	}
}

// next is the part that comes behind those that have returned, or the result.
func (p *plain) next() (part api.Op, result api.Result, ends bool) {
	if isPart(p.o) {
		return api.Op{}, p.results[0], true
	}
	type wanted api.Op
	defer func() {
		switch x := recover().(type) {
		case nil:
		case wanted:
			part = api.Op(x)
		default:
			panic(x)
		}
	}()
	asked := 0
	result = inWords(p.wrong, p.o, p.c.Config().Block, p.left, func(o api.Op) api.Result {
		if asked == len(p.results) {
			panic(wanted(o))
		}
		asked++
		return p.results[asked-1]
	})
	return api.Op{}, result, true
}

func (p *plain) Step(data []byte) []api.Packet {
	list, more := p.c.Step(data), []api.Packet(nil)
	switch more = p.onward(); {
	case p.wrong == "the next part's packets alone" && len(more) > 0:
		return more
	case p.wrong == "the next part's packets first":
		return append(more, list...)
	}
	return append(list, more...)
}

func (p *plain) Tick() []api.Packet {
	if p.wrong == "a tick for the Lookup alone" && len(p.results) > 0 {
		return nil
	}
	list := p.c.Tick()
	return append(list, p.onward()...)
}

func (p *plain) Done() (api.Result, bool) { return p.result, p.state == "returned" }

func (p *plain) Pending() bool {
	if p.wrong == "pending for the client alone" {
		return p.c.Pending() && isPart(p.o)
	}
	return p.state == "pending"
}

func (p *plain) Stop() { p.c.Stop() }

// plainStore is the sequential one: entries by name, blocks by file and index.
type plainStore struct {
	c       api.Config
	wrong   string
	entries map[string]api.Entry
	blocks  map[api.Key][]byte
}

func newStore(c api.Config, wrong string) *plainStore {
	return &plainStore{c, wrong, map[string]api.Entry{}, map[api.Key][]byte{}}
}

func (s *plainStore) Do(client, number int, o api.Op) api.Result {
	if err := refusedAlone(s.c, o, false); err != api.OK {
		return api.Result{Err: err}
	}
	if isPart(o) {
		return s.part(o, fileOf(client, number))
	}
	at := number - 1
	return inWords(s.wrong, o, s.c.Block, 1<<40-number, func(part api.Op) api.Result {
		at++
		if s.wrong == "one number for all parts" {
			at = number
		}
		return s.part(part, fileOf(client, at))
	})
}

// in are the entries of a bucket, by name.
func (s *plainStore) in(number int) []api.Entry {
	var all []api.Entry
	for name, e := range s.entries {
		if s.wrong == "one bucket" || bucketOf(s.c, lookup(name)) == number {
			all = append(all, e)
		}
	}
	slices.SortFunc(all, func(a, b api.Entry) int { return strings.Compare(a.Name, b.Name) })
	return all
}

func (s *plainStore) part(o api.Op, mine api.File) api.Result {
	k := api.Key{Kind: api.KBlock, A: o.File.Client, B: o.File.Op, C: o.N}
	e, there := s.entries[o.Name]
	switch {
	case o.Kind == api.ORead:
		data := make([]byte, s.c.Block)
		copy(data, s.blocks[k])
		return api.Result{Data: data}
	case o.Kind == api.OWrite:
		s.blocks[k] = bytes.Clone(o.Data)
		return api.Result{}
	case o.Kind == api.OList:
		return api.Result{List: s.in(o.N)}
	case o.Kind == api.OCreate && there:
		return api.Result{Err: api.ErrExists, Entry: e}
	case o.Kind == api.OCreate && len(s.in(bucketOf(s.c, o))) >= s.c.Room && s.wrong != "room for all":
		return api.Result{Err: api.ErrRoom}
	case o.Kind == api.OCreate:
		s.entries[o.Name] = entry(o.Name, mine, 0)
		return api.Result{Entry: s.entries[o.Name]}
	case !there:
		return api.Result{Err: api.ErrNotFound}
	case o.Kind == api.ORemove:
		delete(s.entries, o.Name)
		return api.Result{Entry: e}
	case o.Kind == api.OLookup:
		return api.Result{Entry: e}
	case e.File != o.File:
		return api.Result{Err: api.ErrStale, Entry: e}
	case o.Kind == api.OSetSize:
		e.Size = o.N
	case o.Kind == api.OGrow:
		e.Size = max(e.Size, o.N)
	case o.Kind == api.OReplace:
		e.File, e.Size = o.New, o.N
	}
	s.entries[o.Name] = e
	return api.Result{Entry: e}
}
