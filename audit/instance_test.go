package audit_test

import (
	"testing"

	"cairn/api"
)

// The instance that is looked at: of all configurations.
func here() api.Key { return at(0, 1) }

// oddCommands are like x but for one thing each.
func oddCommands(w api.Command) []api.Command {
	var list []api.Command
	odd := func(change func(c *api.Command)) {
		c := w
		change(&c)
		list = append(list, c)
	}
	odd(func(c *api.Command) { c.Client++ })
	odd(func(c *api.Command) { c.Op++ })
	odd(func(c *api.Command) { c.Name += "s" })
	odd(func(c *api.Command) { c.Name = "Plum" })
	switch w.Kind {
	case api.CCreate:
		odd(func(c *api.Command) { c.Kind = api.CRemove })
		odd(func(c *api.Command) { c.Kind = api.CLookup })
	case api.CReplace:
		odd(func(c *api.Command) { c.File.Client++ })
		odd(func(c *api.Command) { c.File.Op++ })
		odd(func(c *api.Command) { c.New.Client++ })
		odd(func(c *api.Command) { c.New.Op++ })
		odd(func(c *api.Command) { c.Size++ })
	}
	return list
}

func replace() api.Command {
	return api.Command{Kind: api.CReplace, Client: 4, Op: 2, Name: "plum", File: api.File{Client: 4, Op: 1}, New: api.File{Client: 4, Op: 2}, Size: 1}
}

// times is a row of one thing.
func times(n int, what any) []any {
	var list []any
	for range n {
		list = append(list, what)
	}
	return list
}

// Two unlike commands that disks hold as decided.
func TestP1902SplitByDecided(t *testing.T) {
	for _, c := range []api.Config{three(), wide(), five(), seven()} {
		mustFind(t, c, of(c, here(), decided(x()), decided(y())), fault(api.FSplit, here()))
		mustFind(t, c, of(c, here(), decided(x()), nil, decided(y())), fault(api.FSplit, here()))
		mustFind(t, c, of(c, here(), decided(x()), decided(y()), decided(z())), fault(api.FSplit, here()))
		mustFind(t, c, of(c, here(), decided(x()), decided(x()), decided(y())), fault(api.FSplit, here()))
		mustFind(t, c, of(c, here(), decided(x()), decided(x()), decided(x())))
		mustFind(t, c, of(c, here(), decided(x())))
		for _, w := range []api.Command{x(), replace()} {
			for _, other := range oddCommands(w) {
				mustFind(t, c, of(c, here(), decided(w), decided(other)), fault(api.FSplit, here()))
			}
		}
	}
}

// What F + 1 have accepted at one ballot is decided, what F have is not; nor is it at unlike ballots.
func TestP1902SplitByAcceptances(t *testing.T) {
	for _, c := range []api.Config{three(), wide(), five(), seven()} {
		found := fault(api.FSplit, here())
		few, enough := times(c.F, accepted(3, 7, x())), times(c.F+1, accepted(3, 7, x()))
		mustFind(t, c, of(c, here(), append(few, decided(y()))...))
		mustFind(t, c, of(c, here(), append(enough, decided(y()))...), found)
		mustFind(t, c, of(c, here(), append(enough, decided(x()))...))
		mustFind(t, c, of(c, here(), append(few, accepted(3, 8, x()))...))
		mustFind(t, c, of(c, here(), append(few, accepted(3, 8, x()), decided(y()))...))
		mustFind(t, c, of(c, here(), append(few, accepted(4, 7, x()), decided(y()))...))
		mustFind(t, c, of(c, here(), append(few, accepted(3, 7, z()), decided(y()))...))
		mustFind(t, c, of(c, here(), append(few, promised(3, 7), decided(y()))...))
		mustFind(t, c, of(c, here(), append(few, nil, decided(y()))...))
		mustFind(t, c, of(c, here(), append(few, api.Instance{}, decided(y()))...))
		// a promise that came later takes no acceptance back
		mustFind(t, c, of(c, here(), append(few, outbid(3, 7, x()), decided(y()))...), found)
		mustFind(t, c, of(c, here(), append(times(c.F+1, outbid(3, 7, x())), decided(y()))...), found)
	}
}

// One that holds it as decided is none of the F + 1.
func TestP1902DecidedIsNoAcceptance(t *testing.T) {
	for _, c := range []api.Config{three(), wide(), five(), seven()} {
		few := times(c.F, accepted(3, 7, x()))
		mustFind(t, c, of(c, here(), append(few, decided(x()), accepted(4, 1, y()))...))
		mustFind(t, c, of(c, here(), append(few, decided(x()), accepted(3, 7, y()))...))
		mustFind(t, c, of(c, here(), times(c.F+1, decided(x()))...))
		mustFind(t, c, of(c, here(), append(times(c.F+1, decided(x())), accepted(4, 1, y()))...))
	}
}

// Promises alone, and instances of which nothing is held, decide nothing.
func TestP1902NothingIsDecided(t *testing.T) {
	for _, c := range configs() {
		n := 2*c.F + 1
		mustFind(t, c, of(c, here(), times(n, promised(3, 7))...))
		mustFind(t, c, of(c, here(), times(n, api.Instance{})...))
		mustFind(t, c, of(c, here(), times(n, nil)...))
		if n > 2 {
			mustFind(t, c, of(c, here(), append(times(n-1, promised(3, 7)), decided(y()))...))
			mustFind(t, c, of(c, here(), append(times(n-1, api.Instance{}), decided(y()))...))
			mustFind(t, c, of(c, here(), append(times(n-1, promised(3, 7)), accepted(4, 1, y()))...))
		}
	}
}

// A greater ballot than that of F + 1, by its N or by its client.
func TestP1902Later(t *testing.T) {
	for _, c := range []api.Config{three(), wide(), five(), seven()} {
		found := fault(api.FLater, here())
		enough := times(c.F+1, accepted(3, 7, x()))
		for _, b := range []api.Stamp{stamp(3, 8), stamp(3, 255), stamp(4, 1), stamp(4, 7), stamp(4, 8), stamp(api.MaxNum, 1)} {
			mustFind(t, c, of(c, here(), append(enough, accepted(b.N, b.Client, y()))...), found)
			mustFind(t, c, of(c, here(), append(enough, accepted(b.N, b.Client, x()))...))
			for _, other := range oddCommands(x()) {
				mustFind(t, c, of(c, here(), append(enough, accepted(b.N, b.Client, other))...), found)
			}
			mustFind(t, c, of(c, here(), append(times(c.F, accepted(3, 7, x())), accepted(b.N, b.Client, y()))...))
			mustFind(t, c, of(c, here(), append(enough, promised(b.N, b.Client))...))
		}
		for _, b := range []api.Stamp{stamp(3, 7), stamp(3, 6), stamp(3, 1), stamp(2, 7), stamp(2, 8), stamp(2, 255), stamp(1, 1)} {
			for _, w := range []api.Command{x(), y()} {
				mustFind(t, c, of(c, here(), append(enough, accepted(b.N, b.Client, w))...))
				mustFind(t, c, of(c, here(), append(enough, outbid(b.N, b.Client, w))...))
			}
		}
		mustFind(t, c, of(c, here(), append(times(c.F+1, outbid(3, 7, x())), accepted(4, 1, y()))...), found)
		mustFind(t, c, of(c, here(), append(enough, outbid(4, 1, y()))...), found)
	}
}

// One that holds another command as decided has accepted nothing: that is a split, not a later one.
func TestP1902SplitIsNotLater(t *testing.T) {
	for _, c := range []api.Config{three(), wide(), five(), seven()} {
		mustFind(t, c, of(c, here(), append(times(c.F+1, accepted(3, 7, x())), decided(y()))...), fault(api.FSplit, here()))
	}
	both := []api.Fault{fault(api.FSplit, here()), fault(api.FLater, here())}
	mustFind(t, five(), of(five(), here(), append(times(3, accepted(3, 7, x())), decided(y()), accepted(4, 1, y()))...), both...)
	mustFind(t, five(), of(five(), here(), append(times(3, accepted(3, 7, x())), decided(x()), accepted(4, 1, y()))...), both[1])
}

// With groups of one server, what that has accepted is decided; another server's record is none.
func TestP1902GroupsOfOne(t *testing.T) {
	c := alone()
	own := groupOf(c, here())[0]
	other := c.Servers[0] + c.Servers[1] - own
	for _, i := range []api.Instance{accepted(3, 7, create(4, 1, "a")), decided(create(4, 1, "a"))} {
		mustFind(t, c, of(c, here(), i))
		mustBeNewestBucket(t, c, of(c, here(), i), 0, made(c, create(4, 1, "a")))
		mustFind(t, c, []api.Image{image(c, own, records{here(): i}), image(c, other, records{here(): accepted(9, 9, y())})}, fault(api.FRecord, here()))
	}
}

// Ends of numbers.
func TestP1902LastInstance(t *testing.T) {
	c, k := three(), at(1, api.MaxInstance)
	mustFind(t, c, of(c, k, decided(x()), decided(y())), fault(api.FSplit, k))
	mustFind(t, c, of(c, k, accepted(api.MaxNum, 254, x()), accepted(api.MaxNum, 254, x()), accepted(api.MaxNum, 255, y())), fault(api.FLater, k))
	mustFind(t, c, of(c, k, accepted(api.MaxNum, 255, x()), accepted(api.MaxNum, 255, x()), accepted(api.MaxNum, 254, y())))
}

// An instance up to the Upto of its bucket, on the same disk, counts for nothing; the next one does.
func TestP1902Forgotten(t *testing.T) {
	for _, c := range []api.Config{three(), wide(), five(), seven()} {
		for upto := range 5 {
			b := made(c, []api.Command{x(), y(), z(), x()}[:upto]...)
			for n := 2; n <= 5; n++ { // nobody knows the first one: so it is not known what makes the bucket
				k := at(0, n)
				own, others := decided(remove(9, 9, "b")), decided(remove(9, 8, "b"))
				var split, later []api.Fault
				if n > upto {
					split, later = []api.Fault{fault(api.FSplit, k)}, []api.Fault{fault(api.FLater, k)}
				}
				mustFind(t, c, images(c, k, records{dir(0): b, k: own}, records{k: others}), split...)
				mustFind(t, c, images(c, k, records{k: others}, nil, records{dir(0): b, k: own}), split...)
				// by acceptances: the one that has forgotten is the last that there must be, or the later one
				all := make([]records, c.F+1)
				for i := range all {
					all[i] = records{k: accepted(3, 7, x())}
				}
				all[c.F][dir(0)] = b
				mustFind(t, c, images(c, k, append(all, records{k: others})...), split...)
				mustFind(t, c, images(c, k, append(all, records{k: accepted(4, 1, y())})...), later...)
				delete(all[c.F], dir(0))
				mustFind(t, c, images(c, k, append(all, records{k: accepted(4, 1, y()), dir(0): b})...), later...)
			}
		}
	}
}

// The Upto of another bucket, of another disk, of a record that is none, forgets nothing.
func TestP1902ForgottenThereAlone(t *testing.T) {
	c, k := three(), at(1, 1)
	b := made(c, x(), y())
	mustFind(t, c, []api.Image{image(c, 1, records{dir(0): b, k: decided(x())}), image(c, 2, records{dir(0): b, k: decided(y())})}, fault(api.FSplit, k))
	mustFind(t, c, []api.Image{
		image(c, 1, records{k: decided(x())}), image(c, 2, records{k: decided(y())}), image(c, 3, records{dir(1): b, k: decided(z())}),
	}, fault(api.FSplit, k))
	mustFind(t, c, []api.Image{
		image(c, 1, records{dir(1): packed(c, b)[1:], k: decided(x())}), image(c, 2, records{k: decided(y())}),
	}, fault(api.FRecord, dir(1)), fault(api.FSplit, k))
	mustFind(t, c, []api.Image{image(c, 1, records{dir(1): api.Bucket{}, k: decided(x())}), image(c, 2, records{k: decided(y())})}, fault(api.FSplit, k))
}
