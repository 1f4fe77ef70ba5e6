package audit_test

import (
	"testing"

	"cairn/api"
)

// Without a trimmed one: from the empty one on, as far as just one command is decided in each instance.
func TestP1904FromTheEmptyOne(t *testing.T) {
	for _, c := range []api.Config{three(), wide(), five(), seven()} {
		no := api.Command{}
		a := abc()
		for _, e := range []struct {
			disk records
			want api.Bucket
		}{
			{records{}, api.Bucket{}},
			{known(0, 1, a[0]), made(c, a[0])},
			{known(0, 1, a...), made(c, a...)},
			{known(0, 2, a...), api.Bucket{}},
			{known(0, 1, a[0], no, a[2]), made(c, a[0])},
			{known(0, 1, a[0], a[1], no, a[2]), made(c, a[:2]...)},
			{known(0, 1, a...).with(at(0, 2), accepted(1, 1, a[1])), made(c, a[0])},
			{known(0, 1, a...).with(at(0, 2), promised(1, 1)), made(c, a[0])},
			{known(0, 1, a...).with(at(0, 2), api.Instance{}), made(c, a[0])},
			{known(0, 1, a...).with(at(0, 2), []byte{1, 2}), made(c, a[0])},
			{known(0, 1, a...).with(dir(0), []byte{1, 2}), made(c, a...)},
		} {
			mustBeNewestBucket(t, c, images(c, dir(0), e.disk), 0, e.want)
			mustBeNewestBucket(t, c, images(c, dir(0), records{}, e.disk), 0, e.want)
			mustBeNewestBucket(t, c, images(c, dir(0), records{}, nil, e.disk), 0, e.want)
		}
	}
}

// From the trimmed one with the greatest Upto on.
func TestP1904FromATrimmedOne(t *testing.T) {
	for _, c := range []api.Config{three(), wide(), five(), seven()} {
		a := append(abc(), create(7, 1, "d"))
		for upto := 1; upto <= 4; upto++ {
			b := made(c, a[:upto]...)
			mustBeNewestBucket(t, c, of(c, dir(0), b), 0, b)
			mustBeNewestBucket(t, c, of(c, dir(0), made(c, x()), b, api.Bucket{}), 0, newer(made(c, x()), b))
			mustBeNewestBucket(t, c, images(c, dir(0), records{dir(0): b}, known(0, upto+1, a[upto:]...)), 0, made(c, a...))
			mustBeNewestBucket(t, c, images(c, dir(0), known(0, upto+1, a[upto:]...).with(dir(0), b)), 0, made(c, a...))
			mustBeNewestBucket(t, c, images(c, dir(0), records{dir(0): b}, known(0, 1, a...)), 0, made(c, a...))
			mustBeNewestBucket(t, c, images(c, dir(0), records{dir(0): b}, known(0, upto+2, a...)), 0, b)
			// what the trimmed one is made of is not asked
			mustBeNewestBucket(t, c, images(c, dir(0), records{dir(0): api.Bucket{Upto: upto}}, known(0, 1, a...)), 0, madeFrom(c, api.Bucket{Upto: upto}, a[upto:]...))
		}
		mustBeNewestBucket(t, c, of(c, dir(0), made(c, a[:2]...), made(c, a[:3]...), made(c, a[:1]...)), 0, made(c, a[:3]...))
		mustBeNewestBucket(t, c, of(c, dir(0), made(c, a[:3]...), made(c, a[:2]...), made(c, a[:1]...)), 0, made(c, a[:3]...))
		mustBeNewestBucket(t, c, of(c, dir(0), made(c, a[:1]...), []byte{1}, made(c, a[:3]...)), 0, made(c, a[:3]...))
	}
}

// newer is the one with the greater Upto; the first, if they are alike.
func newer(a, b api.Bucket) api.Bucket {
	if b.Upto > a.Upto {
		return b
	}
	return a
}

// Of alike Uptos that of the first image, though they are unlike.
func TestP1904FirstBucket(t *testing.T) {
	c := three()
	one, two := image(c, 1, records{dir(1): made(c, x())}), image(c, 2, records{dir(1): made(c, z())})
	three := image(c, 3, records{at(1, 2): decided(y())})
	mustBeNewestBucket(t, c, []api.Image{one, two}, 1, made(c, x()))
	mustBeNewestBucket(t, c, []api.Image{two, one}, 1, made(c, z()))
	mustBeNewestBucket(t, c, []api.Image{three, two, one}, 1, made(c, z(), y()))
	mustBeNewestBucket(t, c, []api.Image{three, one, two}, 1, made(c, x(), y()))
	mustBeNewestBucket(t, c, []api.Image{one, two, three}, 0, api.Bucket{})
}

// Two commands decided in one instance end it; so does what a disk has forgotten.
func TestP1904TwoInOne(t *testing.T) {
	for _, c := range []api.Config{three(), wide(), five(), seven()} {
		a := abc()
		for n := 1; n <= 3; n++ {
			l := images(c, dir(0), known(0, 1, a...), records{at(0, n): decided(remove(9, 9, "q"))})
			mustBeNewestBucket(t, c, l, 0, made(c, a[:n-1]...))
			// of a disk that has forgotten it, it is none
			l[1] = image(c, l[1].Server, records{at(0, n): decided(remove(9, 9, "q")), dir(0): made(c, a[:n]...)})
			mustBeNewestBucket(t, c, l, 0, made(c, a...))
		}
		enough := make([]records, c.F+1)
		for i := range enough {
			enough[i] = records{at(0, 1): accepted(2, 2, a[0]), at(0, 2): accepted(2, 2, a[1])}
		}
		mustBeNewestBucket(t, c, images(c, dir(0), enough...), 0, made(c, a[:2]...))
		mustBeNewestBucket(t, c, images(c, dir(0), append(enough, records{at(0, 2): decided(a[1])})...), 0, made(c, a[:2]...))
		mustBeNewestBucket(t, c, images(c, dir(0), append(enough, records{at(0, 2): decided(a[2])})...), 0, made(c, a[0]))
		mustBeNewestBucket(t, c, images(c, dir(0), append(enough, records{at(0, 2): accepted(3, 1, a[2])})...), 0, made(c, a[:2]...))
		enough[0][at(0, 1)] = accepted(2, 3, a[0])
		mustBeNewestBucket(t, c, images(c, dir(0), enough...), 0, api.Bucket{})
	}
}

// A server that does not stand in the bucket's group holds none of it.
func TestP1904BucketOfStrangers(t *testing.T) {
	c := wide()
	group := groupOf(c, dir(0))
	far := stranger(c, group)
	l := []api.Image{image(c, far, known(0, 2, y()).with(dir(0), made(c, x(), y(), z()))), image(c, group[0], records{dir(0): made(c, x())})}
	mustBeNewestBucket(t, c, l, 0, made(c, x()))
	mustBeNewestBucket(t, c, l[:1], 0, api.Bucket{})
}

// Other buckets' instances make nothing here.
func TestP1904EachBucketItsOwn(t *testing.T) {
	c := three()
	l := []api.Image{image(c, 1, records{at(0, 1): decided(x()), at(1, 1): decided(z()), at(1, 2): decided(y()), dir(0): api.Bucket{}})}
	mustBeNewestBucket(t, c, l, 0, made(c, x()))
	mustBeNewestBucket(t, c, l, 1, made(c, z(), y()))
}
