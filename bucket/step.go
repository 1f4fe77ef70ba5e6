package bucket

import (
	"cmp"
	"slices"
	"strings"

	"cairn/api"
)

// refusal is why a command is not applied; a command that is applied may still be answered an error.
func refusal(b api.Bucket, c api.Command) api.Errno {
	switch {
	case c.Kind < api.CCreate || c.Kind > api.CReplace:
		return api.ErrCommand
	case c.Client < 1 || c.Client > api.MaxId:
		return api.ErrCommand
	case c.Op < 1 || c.Op > api.MaxNum:
		return api.ErrCommand
	case b.Upto >= api.MaxInstance:
		return api.ErrWorn
	}
	return api.OK
}

// step makes of a bucket, which must be nobody else's, the one behind a command.
func step(b *api.Bucket, c api.Command, room int) api.Answer {
	answer := act(b, c, room)
	b.Upto++
	if c.Kind != api.CLookup && c.Kind != api.CList {
		keep(b, api.Last{
			Client: c.Client, Op: c.Op, Instance: b.Upto,
			Err: answer.Err, File: answer.Entry.File, Size: answer.Entry.Size,
		})
	}
	return answer
}

// act does to the entries what the command asks.
func act(b *api.Bucket, c api.Command, room int) api.Answer {
	switch c.Kind {
	case api.CList:
		return api.Answer{List: all(*b)}
	case api.CCreate:
		return create(b, c, room)
	}
	at, there := entryAt(b.Entries, c.Name)
	if !there {
		return api.Answer{Err: api.ErrNotFound}
	}
	switch c.Kind {
	case api.CLookup:
		return api.Answer{Entry: b.Entries[at]}
	case api.CRemove:
		gone := b.Entries[at]
		b.Entries = slices.Delete(b.Entries, at, at+1)
		return api.Answer{Entry: gone}
	}
	return change(&b.Entries[at], c)
}

func all(b api.Bucket) []api.Entry {
	var list []api.Entry
	for e := range Names(b, "") {
		list = append(list, e)
	}
	return list
}

func create(b *api.Bucket, c api.Command, room int) api.Answer {
	at, there := entryAt(b.Entries, c.Name)
	if there {
		return api.Answer{Err: api.ErrExists, Entry: b.Entries[at]}
	}
	if len(b.Entries) >= room {
		return api.Answer{Err: api.ErrRoom}
	}
	e := api.Entry{Name: c.Name, File: api.File{Client: c.Client, Op: c.Op}}
	b.Entries = slices.Insert(b.Entries, at, e)
	return api.Answer{Entry: e}
}

// change is for those commands that name the file which they take the entry to have.
func change(e *api.Entry, c api.Command) api.Answer {
	if e.File != c.File {
		return api.Answer{Err: api.ErrStale, Entry: *e}
	}
	switch c.Kind {
	case api.CSetSize:
		e.Size = c.Size
	case api.CGrow:
		e.Size = max(e.Size, c.Size)
	case api.CReplace:
		e.File, e.Size = c.New, c.Size
	}
	return api.Answer{Entry: *e}
}

// keep has a client's Last stand in the place of its elder one, or joins it.
func keep(b *api.Bucket, l api.Last) {
	at, there := lastAt(b.Lasts, l.Client)
	if there {
		b.Lasts[at] = l
		return
	}
	b.Lasts = slices.Insert(b.Lasts, at, l)
}

// entryAt tells where the entry of a name stands, or would.
func entryAt(l []api.Entry, name string) (int, bool) {
	return slices.BinarySearchFunc(l, name, func(e api.Entry, name string) int { return strings.Compare(e.Name, name) })
}

// lastAt tells where the Last of a client stands, or would.
func lastAt(l []api.Last, client int) (int, bool) {
	return slices.BinarySearchFunc(l, client, func(x api.Last, client int) int { return cmp.Compare(x.Client, client) })
}
