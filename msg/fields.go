package msg

import (
	"slices"

	"cairn/api"
	"cairn/ring"
)

// A field of a message, behind the head that all kinds have.
type field int

const (
	stampField field = iota
	heldField
	blockField
	commandField
	bucketField
	commandsField
	moreField
	fieldCount
)

// fieldsOf tells the fields of a kind, in the order in which they stand as bytes. It alone says so: what writes, what reads and what judges goes by it.
func fieldsOf(kind int) []field {
	switch kind {
	case api.MPut, api.MValue:
		return []field{stampField, blockField}
	case api.MPrepare, api.MNack, api.MAccepted, api.MAsk:
		return []field{stampField}
	case api.MAccept:
		return []field{stampField, commandField}
	case api.MLearned, api.MKnown:
		return []field{commandField}
	case api.MPromise:
		return []field{stampField, heldField, commandField}
	case api.MBucket:
		return []field{bucketField}
	case api.MHave:
		return []field{stampField, blockField, bucketField, commandsField, moreField}
	}
	return nil
}

// only tells whether all other fields are empty.
func only(m api.Msg, fields ...field) bool {
	for f := range fieldCount {
		if !empty(m, f) && !slices.Contains(fields, f) {
			return false
		}
	}
	return true
}

func empty(m api.Msg, f field) bool {
	switch f {
	case stampField:
		return isNone(m.Stamp)
	case heldField:
		return isNone(m.Held)
	case blockField:
		return len(m.Block) == 0
	case commandField:
		return m.Command == api.Command{}
	case bucketField:
		return emptyBucket(m.Bucket)
	case commandsField:
		return len(m.Commands) == 0
	}
	return !m.More
}

func rightMsg(m api.Msg, c api.Config) bool {
	return rightEnds(m, c) && rightKey(m, c) && only(m, fieldsOf(m.Kind)...) && rightFields(m, c)
}

// rightEnds: who sends the kind to whom, and whose op it is about; of a number that is no kind nobody does.
func rightEnds(m api.Msg, c api.Config) bool {
	switch m.Kind {
	case api.MQuery, api.MPut, api.MPrepare, api.MAccept, api.MLearned:
		return isClient(m.From) && isServer(m.To, c) && rightNum(m.Op) && rightNum(m.Round)
	case api.MValue, api.MAck, api.MPromise, api.MNack, api.MAccepted, api.MKnown, api.MBucket:
		return isServer(m.From, c) && isClient(m.To) && rightNum(m.Op) && rightNum(m.Round)
	case api.MAsk, api.MHave:
		return isServer(m.From, c) && isServer(m.To, c) && m.From != m.To && m.Op == 0 && m.Round == 0
	}
	return false
}

func isClient(a api.Addr) bool { return a.Client && rightId(a.Id) }

func isServer(a api.Addr, c api.Config) bool { return !a.Client && slices.Contains(c.Servers, a.Id) }

func rightKey(m api.Msg, c api.Config) bool {
	if !ring.Right(m.Key, c) {
		return false
	}
	switch m.Kind {
	case api.MQuery, api.MPut, api.MValue, api.MAck:
		return m.Key.Kind == api.KBlock
	case api.MAsk, api.MHave:
		return m.Key.Kind == api.KBlock || m.Key.Kind == api.KBucket
	}
	return m.Key.Kind == api.KInstance
}

// rightFields: what stands in the kind's fields may stand there. (MQuery and MAck have none.)
func rightFields(m api.Msg, c api.Config) bool {
	switch m.Kind {
	case api.MPut:
		return isOne(m.Stamp) && len(m.Block) == c.Block
	case api.MValue:
		return rightBlock(api.Block{Stamp: m.Stamp, Data: m.Block}, c)
	case api.MPrepare, api.MNack, api.MAccepted:
		return isOne(m.Stamp)
	case api.MAccept:
		return isOne(m.Stamp) && rightCommand(m.Command, c)
	case api.MLearned, api.MKnown:
		return rightCommand(m.Command, c)
	case api.MPromise:
		return isOne(m.Stamp) && rightHeld(m.Stamp, m.Held, m.Command, c)
	case api.MBucket:
		return rightBucket(m.Bucket, c) && m.Bucket.Upto >= m.Key.B
	case api.MAsk:
		return m.Key.Kind == api.KBlock && isNone(m.Stamp) || m.Key.Kind == api.KBucket && isFrom(m.Stamp)
	case api.MHave:
		return rightHave(m, c)
	}
	return true
}

// isFrom: a stamp that tells an instance from which on others are meant, the one behind the last one too.
func isFrom(s api.Stamp) bool {
	return within(s.N, 1, api.MaxInstance+1) && s.Client == 0
}

// rightHave: of a block what is held, if anything is; of a bucket the trimmed one, or commands from an instance on.
func rightHave(m api.Msg, c api.Config) bool {
	switch {
	case m.Key.Kind == api.KBlock && isNone(m.Stamp):
		return only(m)
	case m.Key.Kind == api.KBlock:
		return only(m, stampField, blockField) && isOne(m.Stamp) && len(m.Block) == c.Block
	case isNone(m.Stamp):
		return only(m, bucketField, moreField) && m.Bucket.Upto > 0 && rightBucket(m.Bucket, c)
	}
	return only(m, stampField, commandsField, moreField) && isFrom(m.Stamp) && rightRow(m.Stamp.N, m.Commands, c)
}

// rightRow: commands of instances that there are, and the zero Command where none is known.
func rightRow(from int, row []api.Command, c api.Config) bool {
	if len(row) > api.MaxHeld || from+len(row) > api.MaxInstance+1 {
		return false
	}
	for _, x := range row {
		if x != (api.Command{}) && !rightCommand(x, c) {
			return false
		}
	}
	return true
}
