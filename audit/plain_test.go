package audit_test

import (
	"bytes"
	"slices"
	"strconv"

	"cairn/api"
	"cairn/bucket"
	"cairn/msg"
	"cairn/ring"
)

// slip is a record of a disk, as it was read.
type slip struct {
	image    int // the place of its disk among the images
	key      api.Key
	right    bool // the key is
	stands   bool // its server does, in the key's group
	readable bool
	block    api.Block
	bucket   api.Bucket
	instance api.Instance
}

// slipsOf reads all that lies on trays.
func slipsOf(c api.Config, l []tray) []slip {
	r, err := ring.New(c)
	if err != api.OK {
		panic(err)
	}
	var all []slip
	for i, s := range l {
		for k, what := range s.records {
			group, err := r.Group(k)
			x := slip{image: i, key: k, right: err == api.OK, stands: slices.Contains(group, s.server)}
			b := packed(c, what)
			switch k.Kind {
			case api.KBlock:
				x.block, err = msg.ReadBlock(b, c)
			case api.KBucket:
				x.bucket, err = msg.ReadBucket(b, c)
			case api.KInstance:
				x.instance, err = msg.ReadInstance(b, c)
			}
			x.readable = err == api.OK
			all = append(all, x)
		}
	}
	slices.SortStableFunc(all, func(a, b slip) int { return a.image - b.image })
	return all
}

// plain audits by the words of the chapter, one after the other and without haste. It may break a rule on purpose.
type plain struct {
	c     api.Config
	slips []slip              // of one image after the other
	wrong string              // the rule that it breaks
	heard map[string]struct{} // the rules that it has come by and could have broken; nil: nobody listens
}

func (p plain) breaks(rule string) bool {
	if p.heard != nil {
		p.heard[rule] = struct{}{}
	}
	return p.wrong == rule
}

// isNone is of a record. A zero block, bucket or instance that lies there is one.
func (p plain) isNone(s slip) bool {
	switch {
	case !s.right:
		return !p.breaks("a key need not be right")
	case !s.stands:
		return !p.breaks("a server need not stand in the group")
	case !s.readable:
		return !p.breaks("a record need not be readable, of the kind " + strconv.Itoa(s.key.Kind))
	case s.key.Kind == api.KBlock && s.block.Stamp == api.Stamp{}:
		return p.breaks("a block that nobody has written is none")
	case s.key.Kind == api.KBucket && s.bucket.Upto == 0:
		return p.breaks("a bucket with the Upto 0 is none")
	case s.key.Kind == api.KInstance && s.instance == api.Instance{}:
		return p.breaks("the zero instance is none")
	}
	return false
}

// isForgotten is of an instance's record that is one.
func (p plain) isForgotten(s slip) bool {
	for _, b := range p.slips {
		if b.key.Kind != api.KBucket || p.isNone(b) {
			continue
		}
		if b.key.A != s.key.A && !p.breaks("what one bucket has forgotten all have") {
			continue
		}
		if b.image != s.image && !p.breaks("what one disk has forgotten all have") {
			continue
		}
		upto := b.bucket.Upto
		switch {
		case s.key.B < upto && p.breaks("the Upto alone is forgotten"):
			continue
		case s.key.B == upto && p.breaks("the Upto is not forgotten"):
			continue
		case s.key.B == upto+1 && upto > 0 && p.breaks("the one behind the Upto is forgotten"):
			return true
		}
		if s.key.B <= upto {
			return true
		}
	}
	return false
}

// held are the records of a key that are one, and count.
func (p plain) held(k api.Key) []slip {
	var list []slip
	for _, s := range p.slips {
		if s.key == k && !p.isNone(s) && !(k.Kind == api.KInstance && p.isForgotten(s)) {
			list = append(list, s)
		}
	}
	return list
}

// alike: two commands are the same one.
func (p plain) alike(a, b api.Command) bool {
	differ := func(what string, unlike bool) bool {
		return unlike && !p.breaks("commands are alike whatever their "+what)
	}
	return !(differ("Kind", a.Kind != b.Kind) || differ("Client", a.Client != b.Client) || differ("Op", a.Op != b.Op) || differ("Name", a.Name != b.Name) ||
		differ("File", a.File != b.File) || differ("New", a.New != b.New) || differ("Size", a.Size != b.Size))
}

// oneBallot: two have accepted at one.
func (p plain) oneBallot(a, b api.Instance) bool {
	x, y := a.Accepted, b.Accepted
	if p.breaks("what is promised is the ballot") {
		x, y = a.Promised, b.Promised
	}
	return x == y || x.N == y.N && p.breaks("a ballot is its N") || x.Client == y.Client && p.breaks("a ballot is its client") || p.breaks("ballots are all one")
}

// hasAccepted: one that holds it as decided has not.
func (p plain) hasAccepted(i api.Instance) bool {
	switch {
	case i.Decided:
		return p.breaks("what is decided is accepted")
	case i.Accepted == api.Stamp{} && i.Promised != api.Stamp{}:
		return p.breaks("what is promised is accepted")
	case i == api.Instance{}:
		return p.breaks("the zero instance is accepted")
	}
	return true
}

// chosen are those of a key that are among F + 1 that have accepted one command at one ballot.
func (p plain) chosen(k api.Key) []api.Instance {
	need := p.c.F + 1
	if p.breaks("F are enough") {
		need--
	}
	if p.breaks("F + 2 are needed") {
		need++
	}
	var list []api.Instance
	for _, a := range p.held(k) {
		if !p.hasAccepted(a.instance) {
			continue
		}
		count := 0
		for _, b := range p.held(k) {
			i := b.instance
			if p.hasAccepted(i) && p.oneBallot(a.instance, i) && p.alike(a.instance.Command, i.Command) ||
				i.Decided && p.breaks("one that holds it as decided is one of the F + 1") && p.alike(a.instance.Command, i.Command) {
				count++
			}
		}
		if count >= need {
			list = append(list, a.instance)
		}
	}
	return list
}

// decided are the unlike commands that are decided in an instance.
func (p plain) decided(k api.Key) []api.Command {
	var all, list []api.Command
	for _, s := range p.held(k) {
		if s.instance.Decided && !p.breaks("what a disk holds as decided is not") {
			all = append(all, s.instance.Command)
		}
	}
	for _, i := range p.chosen(k) {
		if !p.breaks("what F + 1 have accepted is not decided") {
			all = append(all, i.Command)
		}
	}
	for _, w := range all {
		if !slices.ContainsFunc(list, func(x api.Command) bool { return p.alike(w, x) }) {
			list = append(list, w)
		}
	}
	return list
}

func (p plain) isSplit(k api.Key) bool { return len(p.decided(k)) > 1 }

func stampLess(a, b api.Stamp) bool { return a.N < b.N || a.N == b.N && a.Client < b.Client }

// isGreater is of two ballots.
func (p plain) isGreater(b, than api.Stamp) bool {
	switch {
	case p.breaks("later is by N alone"):
		return b.N > than.N
	case p.breaks("later is by the client alone"):
		return b.Client > than.Client
	case p.breaks("an equal ballot is later"):
		return !stampLess(b, than)
	case p.breaks("a lesser ballot is later"):
		return stampLess(b, than)
	case p.breaks("every ballot is later"):
		return true
	}
	return stampLess(than, b)
}

func (p plain) isLater(k api.Key) bool {
	for _, first := range p.chosen(k) {
		for _, s := range p.held(k) {
			i := s.instance
			ballot := i.Accepted
			if p.breaks("later is by what is promised") {
				ballot = i.Promised
			}
			if i.Decided && p.breaks("what is decided is later") && !p.alike(first.Command, i.Command) {
				return true
			}
			if p.hasAccepted(i) && p.isGreater(ballot, first.Accepted) && (!p.alike(first.Command, i.Command) || p.breaks("the same command is later")) {
				return true
			}
		}
	}
	return false
}

// twoOf tells whether two records of a key are so.
func (p plain) twoOf(k api.Key, what string, so func(a, b slip) bool) bool {
	l := p.held(k)
	for i, a := range l {
		for j, b := range l[i+1:] {
			if j > 0 && p.breaks(what+": neighbours alone are held against each other") || i > 0 && p.breaks(what+": the first alone is held against others") {
				continue
			}
			if so(a, b) {
				return true
			}
		}
	}
	return false
}

func (p plain) isTagged(k api.Key) bool {
	return p.twoOf(k, "blocks", func(a, b slip) bool {
		x, y := a.block, b.block
		one := x.Stamp == y.Stamp || x.Stamp.N == y.Stamp.N && p.breaks("a tag is its N") || x.Stamp.Client == y.Stamp.Client && p.breaks("a tag is its client") || p.breaks("tags are all one")
		if len(x.Data) > 1 && p.breaks("the first byte is not looked at") {
			x.Data, y.Data = x.Data[1:], y.Data[1:]
		}
		if n := len(x.Data) - 1; n > 0 && p.breaks("the last byte is not looked at") {
			x.Data, y.Data = x.Data[:n], y.Data[:n]
		}
		return one && !bytes.Equal(x.Data, y.Data)
	})
}

// unlike is of two buckets.
func (p plain) unlike(a, b api.Bucket) bool {
	return !slices.Equal(a.Entries, b.Entries) && !p.breaks("Entries are not looked at") || !slices.Equal(a.Lasts, b.Lasts) && !p.breaks("Lasts are not looked at")
}

// replayed is a bucket behind commands.
func (p plain) replayed(b api.Bucket, l ...api.Command) api.Bucket {
	room := p.c.Room
	if p.breaks("Room is not looked at") {
		room = api.MaxRoom
	}
	if p.breaks("there is room for one more") {
		room++
	}
	next, _, err := bucket.Replay(b, room, l...)
	if err != api.OK { // only who breaks a rule takes what is no command for one
		return api.Bucket{Upto: api.MaxInstance}
	}
	return next
}

// only is the command of an instance in which just one is decided.
func (p plain) only(k api.Key) (api.Command, bool) {
	l := p.decided(k)
	if len(l) > 1 && p.breaks("of two that are decided the first counts") {
		l = l[:1]
	}
	if len(l) != 1 {
		return api.Command{}, false
	}
	return l[0], true
}

// commands are those of the instances behind u, up to v, if just one is decided in each.
func (p plain) commands(number, u, v int) ([]api.Command, bool) {
	var list []api.Command
	for n := u + 1; n <= v; n++ {
		w, one := p.only(at(number, n))
		switch {
		case one:
			list = append(list, w)
		case v-u > 100: // nor does who breaks a rule go through a million of them
			return nil, false
		case n == v && p.breaks("in the last instance none need be decided"), n == u+1 && p.breaks("in the first instance none need be decided"), p.breaks("a gap is passed over"):
		default:
			return nil, false
		}
	}
	return list, true
}

// isUnmade is P1903.
func (p plain) isUnmade(number int) bool {
	l := p.held(dir(number))
	starts := slices.Clone(l)
	if p.breaks("a trimmed bucket is no start") {
		starts = nil
	}
	if !p.breaks("the empty bucket is no start") {
		starts = append(starts, slip{image: -1})
	}
	for _, end := range l {
		for _, start := range starts {
			u, v := start.bucket.Upto, end.bucket.Upto
			if u >= v || start.image >= 0 && start.image > end.image && p.breaks("a start lies on an earlier image") {
				continue
			}
			if w, known := p.commands(number, u, v); known && p.unlike(p.replayed(start.bucket, w...), end.bucket) {
				return true
			}
		}
	}
	return false
}

func (p plain) isBucketFault(k api.Key) bool {
	two := p.twoOf(k, "buckets", func(a, b slip) bool {
		return (a.bucket.Upto == b.bucket.Upto || p.breaks("Uptos are all one")) && p.unlike(a.bucket, b.bucket)
	})
	return two && !p.breaks("unlike buckets are no fault") || p.isUnmade(k.A) && !p.breaks("what is not made is no fault")
}

// Run is P1902.
func (p plain) Run() []api.Fault {
	var list []api.Fault
	tell := func(kind int, k api.Key, found bool) {
		if f := fault(kind, k); found && (!slices.Contains(list, f) || p.breaks("a fault may be told twice")) {
			list = append(list, f)
		}
	}
	for _, s := range p.slips {
		none := p.isNone(s)
		if none && s.key.Kind == api.KInstance && s.right && s.stands && p.isForgotten(s) && p.breaks("what is forgotten is no fault") {
			none = false
		}
		tell(api.FRecord, s.key, none)
		if none {
			continue
		}
		switch s.key.Kind {
		case api.KBlock:
			tell(api.FTag, s.key, p.isTagged(s.key))
		case api.KBucket:
			tell(api.FBucket, s.key, p.isBucketFault(s.key))
		case api.KInstance:
			tell(api.FSplit, s.key, p.isSplit(s.key))
			tell(api.FLater, s.key, p.isLater(s.key))
		}
	}
	slices.SortFunc(list, p.order)
	return list
}

func (p plain) order(a, b api.Fault) int {
	if a.Kind != b.Kind && p.breaks("faults are in the order of their kinds, then of their keys") {
		return a.Kind - b.Kind
	}
	if a.Key != b.Key {
		if ring.Less(a.Key, b.Key) != p.breaks("keys fall") {
			return -1
		}
		return 1
	}
	if p.breaks("kinds fall") {
		return b.Kind - a.Kind
	}
	return a.Kind - b.Kind
}

// NewestBlock is P1904.
func (p plain) NewestBlock(k api.Key) api.Block {
	var newest api.Block
	for _, s := range p.held(k) {
		was, now := newest.Stamp, s.block.Stamp
		switch {
		case now == api.Stamp{} && was == api.Stamp{} && p.breaks("zeros are told"):
			newest = s.block
		case now == was && now != api.Stamp{} && p.breaks("of alike blocks the last counts"):
			newest = s.block
		case now != api.Stamp{} && now.N == was.N && p.breaks("newer is by N alone"):
		case now != api.Stamp{} && was != api.Stamp{} && p.breaks("the first block is the newest"):
		case now != api.Stamp{} && p.breaks("the last block is the newest"):
			newest = s.block
		case now != api.Stamp{} && stampLess(now, was) && p.breaks("the eldest block is the newest"):
			newest = s.block
		case stampLess(was, now):
			newest = s.block
		}
	}
	return newest
}

// NewestBucket is P1904.
func (p plain) NewestBucket(number int) api.Bucket {
	var newest api.Bucket
	for i, s := range p.held(dir(number)) {
		was, now := newest.Upto, s.bucket.Upto
		switch {
		case now == was && p.breaks("of alike buckets the last counts"):
			newest = s.bucket
		case i > 0 && p.breaks("the first bucket is the newest"):
		case p.breaks("the last bucket is the newest"):
			newest = s.bucket
		case now > was:
			newest = s.bucket
		}
	}
	for newest.Upto < api.MaxInstance {
		w, one := p.only(at(number, newest.Upto+1))
		if !one {
			if next, more := p.only(at(number, newest.Upto+2)); more && p.breaks("a gap ends nothing") {
				newest = p.replayed(newest, next)
				newest.Upto++
				continue
			}
			break
		}
		if p.breaks("nothing is behind the trimmed bucket") {
			break
		}
		newest = p.replayed(newest, w)
		if p.breaks("one command alone is behind the trimmed bucket") {
			break
		}
	}
	return newest
}
