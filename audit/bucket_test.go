package audit_test

import (
	"slices"
	"testing"

	"cairn/api"
	"cairn/msg"
)

// three commands of a bucket, of which no two may change places without another bucket.
func abc() []api.Command {
	return []api.Command{create(4, 1, "a"), create(5, 1, "b"), remove(6, 1, "a")}
}

// spoilt are like a bucket, each but for one thing; all of them are right.
func spoilt(c api.Config, b api.Bucket) []api.Bucket {
	var list []api.Bucket
	odd := func(change func(b *api.Bucket)) {
		n := api.Bucket{Upto: b.Upto, Entries: slices.Clone(b.Entries), Lasts: slices.Clone(b.Lasts)}
		change(&n)
		if msg.Bucket(n, c) == api.OK {
			list = append(list, n)
		}
	}
	if len(b.Entries) > 0 {
		odd(func(b *api.Bucket) { b.Entries = b.Entries[1:] })
		odd(func(b *api.Bucket) { b.Entries[0].Name = "0" })
		odd(func(b *api.Bucket) { b.Entries[0].File.Client++ })
		odd(func(b *api.Bucket) { b.Entries[0].File.Op++ })
		odd(func(b *api.Bucket) { b.Entries[0].Size++ })
	}
	if len(b.Lasts) > 0 {
		last := len(b.Lasts) - 1
		odd(func(b *api.Bucket) { b.Lasts = b.Lasts[:last] })
		odd(func(b *api.Bucket) { b.Lasts[last].Client++ })
		odd(func(b *api.Bucket) { b.Lasts[last].Op++ })
		odd(func(b *api.Bucket) { b.Lasts[last].Size++ })
		odd(func(b *api.Bucket) { b.Lasts[last].File.Client++ })
		odd(func(b *api.Bucket) { b.Lasts[last].File.Op++ })
		odd(func(b *api.Bucket) { b.Lasts[last].Err = api.ErrStale })
		if b.Lasts[last].Instance > 1 {
			odd(func(b *api.Bucket) { b.Lasts[last].Instance-- })
		}
	}
	return list
}

// Unlike trimmed buckets with one Upto, whatever they differ in; nobody knows their commands.
func TestP1902UnlikeBuckets(t *testing.T) {
	for _, c := range []api.Config{three(), wide(), five(), seven()} {
		found := fault(api.FBucket, dir(0))
		for upto := 1; upto <= 3; upto++ {
			b := made(c, abc()[:upto]...)
			for _, s := range spoilt(c, b) {
				mustFind(t, c, of(c, dir(0), b, s), found)
				mustFind(t, c, of(c, dir(0), b, nil, s), found)
				mustFind(t, c, of(c, dir(0), b, b, s), found)
				mustFind(t, c, of(c, dir(0), b, made(c, append(abc(), y())...), s), found)
				mustFind(t, c, of(c, dir(0), b, api.Bucket{}, s), found)
				mustFind(t, c, of(c, dir(0), s, s, s))
			}
			mustFind(t, c, of(c, dir(0), b, b, b))
			mustFind(t, c, of(c, dir(0), b))
		}
		mustFind(t, c, of(c, dir(0), made(c, abc()...), made(c, abc()[:2]...), made(c, abc()[:1]...)))
	}
}

// Buckets that are unlike, with unlike Uptos or of unlike numbers, are no fault by themselves.
func TestP1902UnlikeUptos(t *testing.T) {
	c := three()
	mustFind(t, c, of(c, dir(1), made(c, x()), made(c, z(), z()), made(c, y(), y(), y())))
	mustFind(t, c, []api.Image{image(c, 1, records{dir(0): made(c, x()), dir(1): made(c, z())}), image(c, 2, records{dir(0): made(c, x()), dir(1): made(c, z())})})
	mustFind(t, c, []api.Image{image(c, 1, records{dir(0): made(c, x()), dir(1): made(c, z())}), image(c, 2, records{dir(0): made(c, x()), dir(1): made(c, x())})}, fault(api.FBucket, dir(1)))
}

// A bucket with the Upto 0 that lies there is a record that is one, and forgets nothing.
func TestP1902EmptyBucketsThatLieThere(t *testing.T) {
	for _, c := range configs() {
		mustFind(t, c, of(c, dir(0), times(2*c.F+1, api.Bucket{})...))
		w := create(4, 1, "a")
		mustFind(t, c, images(c, dir(0), records{dir(0): api.Bucket{}, at(0, 1): decided(w)}))
		mustBeNewestBucket(t, c, images(c, dir(0), records{dir(0): api.Bucket{}, at(0, 1): decided(w)}), 0, made(c, w))
		mustBeNewestBucket(t, c, of(c, dir(0), api.Bucket{}), 0, api.Bucket{})
	}
}

// known is a disk that holds these as decided, from an instance on.
func known(number, from int, l ...api.Command) records {
	r := records{}
	for i, w := range l {
		if w.Kind != 0 {
			r[at(number, from+i)] = decided(w)
		}
	}
	return r
}

// with is a disk with something more.
func (r records) with(k api.Key, what any) records {
	r[k] = what
	return r
}

// A bucket that is not what its commands make, from the empty one on.
func TestP1903FromTheEmptyOne(t *testing.T) {
	for _, c := range []api.Config{three(), wide(), five(), seven()} {
		found := fault(api.FBucket, dir(0))
		for upto := 1; upto <= 3; upto++ {
			b := made(c, abc()[:upto]...)
			mustFind(t, c, images(c, dir(0), records{dir(0): b}, known(0, 1, abc()...)))
			for _, s := range append(spoilt(c, b), api.Bucket{Upto: upto}) {
				mustFind(t, c, images(c, dir(0), records{dir(0): s}, known(0, 1, abc()[:upto]...)), found)
				mustFind(t, c, images(c, dir(0), records{dir(0): s}, known(0, 1, abc()...)), found)
				mustFind(t, c, images(c, dir(0), records{dir(0): s}, known(0, 1, abc()[:upto-1]...)))
				mustFind(t, c, images(c, dir(0), records{dir(0): s}))
				// they are known by several disks together, or by none alone
				mustFind(t, c, images(c, dir(0), records{dir(0): s}, known(0, 1, abc()[:1]...), known(0, 2, abc()[1:]...)), found)
				mustFind(t, c, images(c, dir(0), known(0, upto+1, abc()...).with(dir(0), s)))
			}
		}
	}
}

// The commands that a disk has forgotten make nothing: neither the bucket on that disk, nor another.
func TestP1903ForgottenOnes(t *testing.T) {
	c := three()
	wrong := api.Bucket{Upto: 2}
	mustFind(t, c, images(c, dir(1), known(1, 1, abc()...).with(dir(1), wrong)))
	mustFind(t, c, images(c, dir(1), known(1, 1, abc()...).with(dir(1), made(c, abc()...)), records{dir(1): wrong}))
	mustFind(t, c, images(c, dir(1), known(1, 1, abc()...).with(dir(1), made(c, abc()[:1]...)), records{dir(1): wrong}), fault(api.FBucket, dir(1)))
}

// By acceptances: F + 1 of them at one ballot, in each instance.
func TestP1903ByAcceptances(t *testing.T) {
	for _, c := range []api.Config{three(), wide(), five(), seven()} {
		on := func(n int, first api.Command, s api.Bucket) []api.Image {
			all := []records{{dir(0): s}}
			for range n {
				all = append(all, records{at(0, 1): accepted(2, 2, first), at(0, 2): accepted(1, 9, abc()[1])})
			}
			return images(c, dir(0), all...)
		}
		good, wrong := made(c, abc()[:2]...), api.Bucket{Upto: 2}
		mustFind(t, c, on(c.F+1, abc()[0], good))
		mustFind(t, c, on(c.F+1, abc()[0], wrong), fault(api.FBucket, dir(0)))
		mustFind(t, c, on(c.F+1, x(), good), fault(api.FBucket, dir(0)))
		mustFind(t, c, on(c.F, abc()[0], wrong))
		mustFind(t, c, on(c.F, x(), good))
	}
}

// From a trimmed one on, wherever it lies.
func TestP1903FromATrimmedOne(t *testing.T) {
	for _, c := range []api.Config{three(), wide(), five(), seven()} {
		found := fault(api.FBucket, dir(0))
		for from := 1; from <= 2; from++ {
			start, end := made(c, abc()[:from]...), made(c, abc()...)
			rest := known(0, from+1, abc()[from:]...)
			mustFind(t, c, images(c, dir(0), records{dir(0): start}, records{dir(0): end}, rest))
			mustFind(t, c, images(c, dir(0), known(0, from+1, abc()[from:]...).with(dir(0), start), records{dir(0): end}))
			for _, s := range append(spoilt(c, end), api.Bucket{Upto: 3}) {
				mustFind(t, c, images(c, dir(0), records{dir(0): start}, records{dir(0): s}, rest), found)
				mustFind(t, c, images(c, dir(0), known(0, from+1, abc()[from:]...).with(dir(0), start), records{dir(0): s}), found)
				mustFind(t, c, images(c, dir(0), records{dir(0): start}, records{dir(0): s}))
			}
			// it is the start that is wrong
			for _, s := range spoilt(c, start) {
				if sameBucket(madeFrom(c, s, abc()[from:]...), end) {
					continue
				}
				mustFind(t, c, images(c, dir(0), records{dir(0): s}, records{dir(0): end}, rest), found)
			}
		}
	}
}

// With a gap in the decided instances nobody knows, unless there is a start behind it.
func TestP1903Gap(t *testing.T) {
	c := three()
	no := api.Command{}
	all := abc()
	wrong := api.Bucket{Upto: 3}
	for _, row := range [][]api.Command{{no, all[1], all[2]}, {all[0], no, all[2]}, {all[0], all[1], no}, {no, no, all[2]}} {
		mustFind(t, c, images(c, dir(1), records{dir(1): wrong}, known(1, 1, row...)))
	}
	mustFind(t, c, images(c, dir(1), records{dir(1): wrong}, known(1, 1, no, all[1], all[2]), records{dir(1): made(c, all[0])}), fault(api.FBucket, dir(1)))
	mustFind(t, c, images(c, dir(1), records{dir(1): wrong}, known(1, 1, all[0], no, all[2]), records{dir(1): made(c, all[:2]...)}), fault(api.FBucket, dir(1)))
	mustFind(t, c, images(c, dir(1), records{dir(1): wrong}, known(1, 1, all[0], no, all[2]), records{dir(1): made(c, all[0])}))
	// what is promised, or accepted by too few, is no decision
	for _, i := range []api.Instance{promised(1, 1), accepted(1, 1, all[1]), {}} {
		mustFind(t, c, images(c, dir(1), records{dir(1): wrong}, known(1, 1, all[0], no, all[2]).with(at(1, 2), i)))
	}
}

// With two commands decided in one of them it is not said what they make; that is a fault of its own.
func TestP1903TwoInOne(t *testing.T) {
	c := three()
	wrong := api.Bucket{Upto: 3}
	for n := 1; n <= 3; n++ {
		l := images(c, dir(1), records{dir(1): wrong}, known(1, 1, abc()...), records{at(1, n): decided(remove(9, 9, "q"))})
		mustFind(t, c, l, fault(api.FSplit, at(1, n)))
		l[0] = image(c, l[0].Server, records{dir(1): made(c, abc()...)})
		mustFind(t, c, l, fault(api.FSplit, at(1, n)))
		// behind the Upto it makes no difference
		if n > 1 {
			l[0] = image(c, l[0].Server, records{dir(1): api.Bucket{Upto: n - 1}})
			mustFind(t, c, l, fault(api.FBucket, dir(1)), fault(api.FSplit, at(1, n)))
		}
	}
}

// Of several starts one is enough, and of several buckets.
func TestP1903SeveralStarts(t *testing.T) {
	c := five()
	k := dir(1)
	row := append(abc(), create(7, 1, "d"), create(8, 1, "e"))
	right := func(n int) api.Bucket { return made(c, row[:n]...) }
	wrong := func(n int) api.Bucket { return api.Bucket{Upto: n} }
	found := fault(api.FBucket, k)
	for _, e := range []struct {
		first, second, third api.Bucket
		knows                records
		want                 []api.Fault
	}{
		{right(1), right(3), right(5), known(1, 1, row...), nil},
		{right(1), right(3), right(5), known(1, 2, row[1:]...), nil},
		{wrong(1), right(3), right(5), known(1, 4, row[3:]...), nil},                                // neither the first nor the second is made of what is known
		{wrong(1), right(3), right(5), known(1, 2, row[1:]...), []api.Fault{found}},                 // the second is not made from the first
		{right(1), wrong(3), right(5), known(1, 2, row[1:3]...), []api.Fault{found}},                // likewise
		{right(1), wrong(3), right(5), known(1, 4, row[3:]...), []api.Fault{found}},                 // the third is not made from the second
		{right(1), right(3), wrong(5), known(1, 4, row[3:]...), []api.Fault{found}},                 // likewise
		{right(1), right(3), wrong(5), known(1, 4, row[3]), nil},                                    // nobody knows
		{wrong(1), wrong(3), wrong(5), known(1, 3, row[2], row[3]), nil},                            // likewise
		{wrong(1), wrong(1), right(5), known(1, 1, row[0]), []api.Fault{found}},                     // the first two are wrong alike
		{right(1), wrong(1), right(5), known(1, 3, row[2:]...), []api.Fault{found}},                 // two are unlike
		{right(5), right(3), right(1), known(1, 2, row[1:]...), nil},                                // in another order
		{right(5), right(3), wrong(1), known(1, 2, row[1:]...), []api.Fault{found}},                 // likewise
		{right(2), right(2), wrong(4), known(1, 3, row[2:4]...), []api.Fault{found}},                // the starts are alike
		{right(2), made(c, x(), y()), right(4), records{}, []api.Fault{found}},                      // they are unlike, and nothing is known
		{right(1), wrong(5), made(c, row...), known(1, 1, row[0]), []api.Fault{found}},              // the ends are unlike
		{right(4), api.Bucket{}, right(4), known(1, 1, row...).with(at(1, 9), promised(1, 1)), nil}, // an empty one lies there
	} {
		l := images(c, k, records{k: e.first}, records{k: e.second}, records{k: e.third}, e.knows)
		mustFind(t, c, l, e.want...)
	}
}

// What makes it are the commands with the configuration's Room: a CCreate is refused where there is none.
func TestP1903Room(t *testing.T) {
	for _, room := range []int{1, 2, 3, 4} {
		c := three()
		c.Room = room
		l := []api.Command{create(4, 1, "a"), create(4, 2, "b"), create(4, 3, "c"), create(4, 4, "d")}
		for other := 1; other <= 4; other++ {
			d := c
			d.Room = other
			b := made(d, l...)
			if len(b.Entries) > room {
				continue // no bucket of this configuration
			}
			var want []api.Fault
			if other != room {
				want = append(want, fault(api.FBucket, dir(1)))
			}
			mustFind(t, c, images(c, dir(1), records{dir(1): b}, known(1, 1, l...)), want...)
			mustFind(t, c, images(c, dir(1), records{dir(1): b}, known(1, 2, l[1:]...).with(dir(1), made(c, l[0]))), want...)
		}
		mustBeNewestBucket(t, c, images(c, dir(1), known(1, 1, l...)), 1, made(c, l...))
	}
}

// Questions count as commands, and so do those that are refused.
func TestP1903Questions(t *testing.T) {
	c := three()
	l := []api.Command{create(4, 1, "a"), {Kind: api.CLookup, Client: 5, Op: 1, Name: "a"}, {Kind: api.CList, Client: 5, Op: 2}, create(5, 3, "a"), replace()}
	b := made(c, l...)
	mustFind(t, c, images(c, dir(1), records{dir(1): b}, known(1, 1, l...)))
	mustFind(t, c, images(c, dir(1), records{dir(1): made(c, l[:3]...)}, known(1, 1, l...)))
	mustFind(t, c, images(c, dir(1), records{dir(1): api.Bucket{Upto: 5}}, known(1, 1, l...)), fault(api.FBucket, dir(1)))
	mustBeNewestBucket(t, c, images(c, dir(1), records{dir(1): made(c, l[:2]...)}, known(1, 1, l...)), 1, b)
}

// At the end of the instances.
func TestP1903LastInstance(t *testing.T) {
	c := three()
	start := api.Bucket{Upto: api.MaxInstance - 1, Entries: made(c, x()).Entries}
	end := madeFrom(c, start, y())
	mustFind(t, c, images(c, dir(1), records{dir(1): start}, records{dir(1): end}, known(1, api.MaxInstance, y())))
	mustFind(t, c, images(c, dir(1), records{dir(1): start}, records{dir(1): end}, known(1, api.MaxInstance, z())), fault(api.FBucket, dir(1)))
	mustBeNewestBucket(t, c, images(c, dir(1), records{dir(1): start}, known(1, api.MaxInstance, y())), 1, end)
	mustBeNewestBucket(t, c, images(c, dir(1), records{dir(1): end}, known(1, api.MaxInstance, y())), 1, end)
}
