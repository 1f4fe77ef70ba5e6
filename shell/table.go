package shell

import "cairn/api"

// commands are all that there are. A name stands here as many times as there are ways to write what is behind it.
func commands() []command {
	return []command{
		{name: "world", needs: []need{number, number, number, number, number, number, number}, many: true, bare: true, does: (*session).found},

		{name: "create", needs: []need{number, text}, does: named(api.OCreate)},
		{name: "remove", needs: []need{number, text}, does: named(api.ORemove)},
		{name: "lookup", needs: []need{number, text}, does: named(api.OLookup)},
		{name: "list", needs: []need{number, number}, does: operation(func(l []given) api.Op { return api.Op{Kind: api.OList, N: l[1].n} })},
		{name: "setsize", needs: []need{number, text, file, number}, does: sized(api.OSetSize)},
		{name: "grow", needs: []need{number, text, file, number}, does: sized(api.OGrow)},
		{name: "replace", needs: []need{number, text, file, file, number}, does: operation(func(l []given) api.Op {
			return api.Op{Kind: api.OReplace, Name: l[1].text, File: l[2].file, New: l[3].file, N: l[4].n}
		})},
		{name: "read", needs: []need{number, file, number}, does: operation(func(l []given) api.Op {
			return api.Op{Kind: api.ORead, File: l[1].file, N: l[2].n}
		})},
		{name: "write", needs: []need{number, file, number, text}, does: operation(func(l []given) api.Op {
			return api.Op{Kind: api.OWrite, File: l[1].file, N: l[2].n, Data: []byte(l[3].text)}
		})},
		{name: "readat", needs: []need{number, text, number, number}, does: operation(func(l []given) api.Op {
			return api.Op{Kind: api.OReadAt, Name: l[1].text, At: l[2].n, N: l[3].n}
		})},
		{name: "writeat", needs: []need{number, text, number, text}, does: operation(func(l []given) api.Op {
			return api.Op{Kind: api.OWriteAt, Name: l[1].text, At: l[2].n, Data: []byte(l[3].text)}
		})},
		{name: "truncate", needs: []need{number, text, number}, does: operation(func(l []given) api.Op {
			return api.Op{Kind: api.OTruncate, Name: l[1].text, N: l[2].n}
		})},
		{name: "copy", needs: []need{number, text, text}, does: operation(func(l []given) api.Op {
			return api.Op{Kind: api.OCopy, Name: l[1].text, Other: l[2].text}
		})},

		{name: "deliver", needs: []need{address, number}, does: ofPacket(api.EDeliver)},
		{name: "lose", needs: []need{address, number}, does: ofPacket(api.ELose)},
		{name: "double", needs: []need{address, number}, does: ofPacket(api.EDouble)},
		{name: "tick", needs: []need{number}, does: ofClient(api.ETick)},
		{name: "stop", needs: []need{number}, does: ofClient(api.EStop)},
		{name: "fall", needs: []need{number, number}, does: ofServer(api.EFall)},
		{name: "start", needs: []need{number}, does: event(func(l []given) api.Event { return api.Event{Kind: api.EStart, Server: l[0].n} })},
		{name: "quota", needs: []need{number, number}, does: ofServer(api.EQuota)},
		{name: "trim", needs: []need{number, number, number}, does: event(func(l []given) api.Event {
			return api.Event{Kind: api.ETrim, Server: l[0].n, N: l[1].n, Upto: l[2].n}
		})},
		{name: "mend", needs: []need{number, number, only("block"), file, number}, does: mend(func(l []given) api.Key { return blockKey(l[3].file, l[4].n) })},
		{name: "mend", needs: []need{number, number, only("bucket"), number}, does: mend(func(l []given) api.Key { return api.Key{Kind: api.KBucket, A: l[3].n} })},

		{name: "fair", needs: []need{number, number}, does: (*session).fair},
		{name: "all", does: (*session).all},
		{name: "under", does: (*session).under},
		{name: "result", needs: []need{number}, does: (*session).result},
		{name: "history", does: (*session).history},
		{name: "witness", does: (*session).witness},
		{name: "legal", does: (*session).legal},
		{name: "audit", does: (*session).audit},
		{name: "group", needs: []need{file, number}, does: (*session).group},
		{name: "bucket", needs: []need{text}, does: (*session).bucket},
		{name: "held", needs: []need{number, file, number}, does: (*session).held},
		{name: "trimmed", needs: []need{number, number}, does: (*session).trimmed},
	}
}
