package msg

import (
	"strings"

	"cairn/api"
)

func rightId(n int) bool { return within(n, 1, api.MaxId) }

func rightNum(n int) bool { return within(n, 1, api.MaxNum) }

func isOne(s api.Stamp) bool { return rightNum(s.N) && rightId(s.Client) }

func isNone(s api.Stamp) bool { return s == api.Stamp{} }

func rightStamp(s api.Stamp) bool { return isNone(s) || isOne(s) }

func above(s, t api.Stamp) bool {
	return s.N > t.N || s.N == t.N && s.Client > t.Client
}

func isFile(f api.File) bool { return rightId(f.Client) && rightNum(f.Op) }

func rightSize(n int, c api.Config) bool { return within(n, 0, api.MaxIndex*c.Block) }

func rightName(s string) bool {
	return within(len(s), 1, api.MaxName) && strings.IndexByte(s, 0) < 0 && strings.IndexByte(s, '/') < 0
}

// rightCommand: what the kind names is right, and there is nothing else.
func rightCommand(x api.Command, c api.Config) bool {
	if !rightId(x.Client) || !rightNum(x.Op) {
		return false
	}
	bare := api.Command{Kind: x.Kind, Client: x.Client, Op: x.Op}
	named := bare
	named.Name = x.Name
	switch x.Kind {
	case api.CCreate, api.CRemove, api.CLookup:
		return x == named && rightName(x.Name)
	case api.CList:
		return x == bare
	case api.CSetSize, api.CGrow:
		return x.New == api.File{} && rightChange(x, c)
	case api.CReplace:
		return isFile(x.New) && rightChange(x, c)
	}
	return false
}

// rightChange: what the commands have in common that change a file's entry.
func rightChange(x api.Command, c api.Config) bool {
	return rightName(x.Name) && isFile(x.File) && rightSize(x.Size, c)
}

func rightBucket(x api.Bucket, c api.Config) bool {
	if x.Upto == 0 {
		return emptyBucket(x)
	}
	return within(x.Upto, 1, api.MaxInstance) && rightEntries(x.Entries, c) && rightLasts(x.Lasts, x.Upto, c)
}

func emptyBucket(x api.Bucket) bool {
	return x.Upto == 0 && len(x.Entries) == 0 && len(x.Lasts) == 0
}

func rightEntries(entries []api.Entry, c api.Config) bool {
	if len(entries) > c.Room {
		return false
	}
	last := "" // it stands ahead of every name
	for _, e := range entries {
		if e.Name <= last || !rightName(e.Name) || !isFile(e.File) || !rightSize(e.Size, c) {
			return false
		}
		last = e.Name
	}
	return true
}

func rightLasts(lasts []api.Last, upto int, c api.Config) bool {
	client := 0
	for _, l := range lasts {
		if l.Client <= client || !rightId(l.Client) || !rightNum(l.Op) || !within(l.Instance, 1, upto) || !rightAnswer(l, c) {
			return false
		}
		client = l.Client
	}
	return true
}

// rightAnswer: an entry that was not found, or had no room, has no file to tell of.
func rightAnswer(l api.Last, c api.Config) bool {
	switch l.Err {
	case api.OK, api.ErrExists, api.ErrStale:
		return isFile(l.File) && rightSize(l.Size, c)
	case api.ErrNotFound, api.ErrRoom:
		return l.File == api.File{} && l.Size == 0
	}
	return false
}

func rightInstance(x api.Instance, c api.Config) bool {
	if x.Decided {
		return isNone(x.Promised) && isNone(x.Accepted) && rightCommand(x.Command, c)
	}
	return rightStamp(x.Promised) && rightHeld(x.Promised, x.Accepted, x.Command, c)
}

// rightHeld: what is accepted under a promise, and nothing if nothing is.
func rightHeld(promised, accepted api.Stamp, x api.Command, c api.Config) bool {
	if isNone(accepted) {
		return x == api.Command{}
	}
	return isOne(accepted) && !above(accepted, promised) && rightCommand(x, c)
}

func rightBlock(x api.Block, c api.Config) bool {
	return len(x.Data) == c.Block && (isOne(x.Stamp) || isNone(x.Stamp) && zeros(x.Data))
}

func zeros(b []byte) bool {
	for _, x := range b {
		if x != 0 {
			return false
		}
	}
	return true
}
