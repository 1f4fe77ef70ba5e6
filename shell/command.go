package shell

import "cairn/api"

// command is one of the shell's: its name, what it needs, and what it does.
type command struct {
	name  string
	needs []need // the words behind the name
	many  bool   // the last of them may come again, any number of times
	bare  bool   // there need be no world
	does  deed
}

type deed func(s *session, l []given) []string

// read tells what a line's words are for a command; false: they are none of its.
func (c command) read(words []string) ([]given, bool) {
	name, words := words[0], words[1:]
	if name != c.name || len(words) < len(c.needs) || len(words) > len(c.needs) && !c.many {
		return nil, false
	}
	var l []given
	for i, word := range words {
		g, ok := c.needs[min(i, len(c.needs)-1)](word)
		if !ok {
			return nil, false
		}
		l = append(l, g)
	}
	return l, true
}

// operation invokes one at the client that the first word names.
func operation(of func(l []given) api.Op) deed {
	return func(s *session, l []given) []string { return s.invoke(l[0].n, of(l)) }
}

// named is an operation that has a name alone.
func named(kind int) deed {
	return operation(func(l []given) api.Op { return api.Op{Kind: kind, Name: l[1].text} })
}

// sized is an operation that gives a file of a name a size.
func sized(kind int) deed {
	return operation(func(l []given) api.Op {
		return api.Op{Kind: kind, Name: l[1].text, File: l[2].file, N: l[3].n}
	})
}

func event(of func(l []given) api.Event) deed {
	return func(s *session, l []given) []string { return s.event(of(l)) }
}

// ofPacket is an event of the packet that an address and a number name.
func ofPacket(kind int) deed {
	return event(func(l []given) api.Event { return api.Event{Kind: kind, Addr: l[0].addr, N: l[1].n} })
}

// ofClient is an event of a client alone.
func ofClient(kind int) deed {
	return event(func(l []given) api.Event { return api.Event{Kind: kind, Client: l[0].n} })
}

// ofServer is an event of a server and a number.
func ofServer(kind int) deed {
	return event(func(l []given) api.Event { return api.Event{Kind: kind, Server: l[0].n, N: l[1].n} })
}

func mend(key func(l []given) api.Key) deed {
	return event(func(l []given) api.Event {
		return api.Event{Kind: api.EMend, Server: l[0].n, Other: l[1].n, Key: key(l)}
	})
}
