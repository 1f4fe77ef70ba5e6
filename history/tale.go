package history

import (
	"cairn/api"
	"cairn/client"
	"cairn/msg"
	"cairn/ring"
)

// tale is a history, as far as it was read.
type tale struct {
	ring     *ring.Ring
	config   api.Config
	invoked  []*operation // by their places
	returned []*operation // by the places of their returns
	numbers  map[int]int  // of each client's last operation
	pending  map[call]*operation
	begun    map[int]struct{}     // the clients of composite ones
	keys     map[api.Key]struct{} // of which there is an HLearn
	learned  map[lesson]int       // the instance of the first HLearn
}

// call names an operation by whose it is.
type call struct {
	client, number int
}

func callOf(x api.Line) call { return call{x.Client, x.Number} }

// lesson is what an HLearn tells of an operation.
type lesson struct {
	bucket int
	call
}

// read takes the lines one by one. The errors are those of Right.
func read(c api.Config, l []api.Line) (*tale, api.Errno) {
	r, err := ring.New(c)
	if err != api.OK {
		return nil, err
	}
	t := &tale{
		ring: r, config: r.Config(), numbers: map[int]int{}, pending: map[call]*operation{},
		begun: map[int]struct{}{}, keys: map[api.Key]struct{}{}, learned: map[lesson]int{},
	}
	for place, x := range l {
		if !t.fits(x) {
			return nil, api.ErrHistory
		}
		t.take(place, x)
	}
	return t, api.OK
}

// fits tells whether a line may come next.
func (t *tale) fits(x api.Line) bool {
	switch {
	case !isPlain(x):
		return false
	case x.Kind == api.HLearn:
		return t.isNews(x)
	case !within(x.Client, 1, api.MaxId):
		return false
	}
	last := t.numbers[x.Client]
	_, pending := t.pending[call{x.Client, last}]
	_, begun := t.begun[x.Client]
	switch x.Kind {
	case api.HInvoke:
		return !pending && within(x.Number, last+1, api.MaxNum) && t.isAtomic(x.Op)
	case api.HReturn:
		return pending && x.Number == last
	case api.HBegin:
		return !pending && !begun && within(x.Op.Kind, api.OReadAt, api.OCopy)
	}
	return !pending && begun
}

// isPlain tells whether a line has one of the kinds, and nothing that its kind does not name.
func isPlain(x api.Line) bool {
	switch x.Kind {
	case api.HInvoke:
		x.Client, x.Number, x.Op = 0, 0, api.Op{}
	case api.HReturn:
		x.Client, x.Number, x.Result = 0, 0, api.Result{}
	case api.HLearn:
		x.Key, x.Command = api.Key{}, api.Command{}
	case api.HBegin:
		x.Client, x.Op = 0, api.Op{}
	case api.HEnd:
		x.Client, x.Result = 0, api.Result{}
	default:
		return false
	}
	return callOf(x) == call{} && isNoOp(x.Op) && isNoResult(x.Result) && x.Key == api.Key{} && x.Command == api.Command{}
}

func isNoOp(o api.Op) bool {
	no := api.File{}
	return o.Kind == 0 && o.Name == "" && o.Other == "" && o.File == no && o.New == no && o.At == 0 && o.N == 0 && len(o.Data) == 0
}

func isNoResult(r api.Result) bool {
	return sameAnswer(r, api.Result{}) && r.Stamp == api.Stamp{} && r.Instance == 0
}

func (t *tale) isNews(x api.Line) bool {
	_, known := t.keys[x.Key]
	return !known && x.Key.Kind == api.KInstance && ring.Right(x.Key, t.config) && msg.Command(x.Command, t.config) == api.OK
}

// isAtomic asks an idle client. What it refuses does not hang on the servers: it has but one, so that it is soon made.
func (t *tale) isAtomic(o api.Op) bool {
	c := t.config
	c.Servers, c.F, c.Points = []int{1}, 0, 1
	idle, err := client.New(c, 1)
	if err == api.OK {
		_, err = idle.Invoke(o)
	}
	return err == api.OK
}

// take notes what a line tells.
func (t *tale) take(place int, x api.Line) {
	switch x.Kind {
	case api.HInvoke:
		o := &operation{invoked: x, place: place, end: none, home: t.home(x.Op)}
		t.invoked = append(t.invoked, o)
		t.numbers[x.Client] = x.Number
		t.pending[callOf(x)] = o
	case api.HReturn:
		o := t.pending[callOf(x)]
		o.end, o.result = place, x.Result
		t.returned = append(t.returned, o)
		delete(t.pending, callOf(x))
	case api.HLearn:
		t.keys[x.Key] = struct{}{}
		about := lesson{x.Key.A, call{x.Command.Client, x.Command.Op}}
		if _, known := t.learned[about]; !known {
			t.learned[about] = x.Key.B
		}
	case api.HBegin:
		t.begun[x.Client] = struct{}{}
	case api.HEnd:
		delete(t.begun, x.Client)
	}
}

// home is the key of the block or bucket that an operation is of.
func (t *tale) home(o api.Op) api.Key {
	switch o.Kind {
	case api.ORead, api.OWrite:
		return api.Key{Kind: api.KBlock, A: o.File.Client, B: o.File.Op, C: o.N}
	case api.OList:
		return api.Key{Kind: api.KBucket, A: o.N}
	}
	return api.Key{Kind: api.KBucket, A: t.ring.Bucket(o.Name)}
}

func within(n, least, most int) bool {
	return least <= n && n <= most
}
