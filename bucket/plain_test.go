package bucket_test

import (
	"slices"

	"cairn/api"
)

// plainFind goes over all entries.
func plainFind(b api.Bucket, name string) (api.Entry, bool) {
	for _, e := range b.Entries {
		if e.Name == name {
			return e, true
		}
	}
	return api.Entry{}, false
}

// plainWith has the bucket's entries without that of the name, and these beside them, put in order anew.
func plainWith(b api.Bucket, name string, l ...api.Entry) []api.Entry {
	list := slices.Clone(l)
	for _, e := range b.Entries {
		if e.Name != name {
			list = append(list, e)
		}
	}
	slices.SortFunc(list, func(x, y api.Entry) int {
		if x.Name < y.Name {
			return -1
		}
		return 1
	})
	return list
}

// plainApply is the table of P1002, row by row, and behind it P1003 and P1004: of a bucket and a command that may be.
func plainApply(b api.Bucket, c api.Command, room int) (api.Bucket, api.Answer) {
	next, a := api.Bucket{Upto: b.Upto + 1, Entries: b.Entries, Lasts: b.Lasts}, api.Answer{}
	e, there := plainFind(b, c.Name)
	switch {
	case c.Kind == 1 && there:
		a = api.Answer{Err: api.ErrExists, Entry: e}
	case c.Kind == 1 && len(b.Entries) >= room:
		a = api.Answer{Err: api.ErrRoom}
	case c.Kind == 1:
		a.Entry = api.Entry{Name: c.Name, File: api.File{Client: c.Client, Op: c.Op}}
		next.Entries = plainWith(b, c.Name, a.Entry)
	case c.Kind == 4:
		a.List = b.Entries
	case !there:
		a.Err = api.ErrNotFound
	case c.Kind == 2:
		a.Entry = e
		next.Entries = plainWith(b, c.Name)
	case c.Kind == 3:
		a.Entry = e
	case e.File != c.File:
		a = api.Answer{Err: api.ErrStale, Entry: e}
	case c.Kind == 5:
		a.Entry = api.Entry{Name: c.Name, File: e.File, Size: c.Size}
		next.Entries = plainWith(b, c.Name, a.Entry)
	case c.Kind == 6:
		a.Entry = e
		if c.Size > e.Size {
			a.Entry.Size = c.Size
		}
		next.Entries = plainWith(b, c.Name, a.Entry)
	case c.Kind == 7:
		a.Entry = api.Entry{Name: c.Name, File: c.New, Size: c.Size}
		next.Entries = plainWith(b, c.Name, a.Entry)
	}
	if c.Kind != 3 && c.Kind != 4 {
		next.Lasts = plainLasts(b, api.Last{Client: c.Client, Op: c.Op, Instance: next.Upto, Err: a.Err, File: a.Entry.File, Size: a.Entry.Size})
	}
	return next, a
}

func plainLasts(b api.Bucket, l api.Last) []api.Last {
	list := []api.Last{l}
	for _, x := range b.Lasts {
		if x.Client != l.Client {
			list = append(list, x)
		}
	}
	slices.SortFunc(list, func(x, y api.Last) int { return x.Client - y.Client })
	return list
}
