package client

import (
	"cairn/api"
	"cairn/msg"
	"cairn/ring"
)

// A field of an operation. N stands for one of three things.
type field int

const (
	nameField field = iota
	fileField
	newField
	bucketField
	sizeField
	indexField
	dataField
)

// fieldsOf tells what a kind names, in the order in which it is judged; of what is no kind of an atomic operation nothing.
func fieldsOf(kind int) []field {
	switch kind {
	case api.OCreate, api.ORemove, api.OLookup:
		return []field{nameField}
	case api.OList:
		return []field{bucketField}
	case api.OSetSize, api.OGrow:
		return []field{nameField, fileField, sizeField}
	case api.OReplace:
		return []field{nameField, fileField, newField, sizeField}
	case api.ORead:
		return []field{fileField, indexField}
	case api.OWrite:
		return []field{fileField, indexField, dataField}
	}
	return nil
}

// refusal tells why an operation is refused at once; OK: it is not.
func (c *Client) refusal(o api.Op) api.Errno {
	fields := fieldsOf(o.Kind)
	switch {
	case c.fallen:
		return api.ErrFallen
	case c.ring == nil: // a client that New did not make
		return api.ErrConfig
	case c.Pending():
		return api.ErrBusy
	case len(fields) == 0 || !only(o, fields...):
		return api.ErrOp
	case c.number >= api.MaxNum:
		return api.ErrWorn
	}
	for _, f := range fields {
		if err := c.judge(o, f); err != api.OK {
			return err
		}
	}
	return api.OK
}

// only tells whether all other fields are empty.
func only(o api.Op, fields ...field) bool {
	for _, f := range fields {
		switch f {
		case nameField:
			o.Name = ""
		case fileField:
			o.File = api.File{}
		case newField:
			o.New = api.File{}
		case bucketField, sizeField, indexField:
			o.N = 0
		case dataField:
			o.Data = nil
		}
	}
	none := api.File{}
	return o.Name == "" && o.Other == "" && o.File == none && o.New == none && o.At == 0 && o.N == 0 && len(o.Data) == 0
}

// judge tells what is wrong with one of the fields.
func (c *Client) judge(o api.Op, f field) api.Errno {
	switch {
	case f == nameField && !c.isName(o.Name):
		return api.ErrName
	case f == fileField && !c.isFile(o.File), f == newField && !c.isFile(o.New):
		return api.ErrArg
	case f == bucketField && !within(o.N, 0, c.config.Buckets-1):
		return api.ErrBucket
	case f == sizeField && !within(o.N, 0, api.MaxIndex*c.config.Block):
		return api.ErrSize
	case f == indexField && !within(o.N, 0, api.MaxIndex-1):
		return api.ErrIndex
	case f == dataField && len(o.Data) != c.config.Block:
		return api.ErrBlock
	}
	return api.OK
}

// Which names and files may be the layers below say: a question that names nothing else, a file's first block.
func (c *Client) isName(s string) bool {
	question := api.Command{Kind: api.CLookup, Client: c.id, Op: 1, Name: s}
	return msg.Command(question, c.config) == api.OK
}

func (c *Client) isFile(f api.File) bool {
	return ring.Right(blockKey(f, 0), c.config)
}

// bucketOf is where an operation that is a command belongs.
func (c *Client) bucketOf(o api.Op) int {
	if o.Kind == api.OList {
		return o.N
	}
	return c.ring.Bucket(o.Name)
}

// command is what the operation asks of its bucket.
func (c *Client) command(o api.Op) api.Command {
	kinds := [...]int{
		api.OCreate: api.CCreate, api.ORemove: api.CRemove, api.OLookup: api.CLookup, api.OList: api.CList,
		api.OSetSize: api.CSetSize, api.OGrow: api.CGrow, api.OReplace: api.CReplace,
	}
	x := api.Command{Kind: kinds[o.Kind], Client: c.id, Op: c.number, Name: o.Name, File: o.File, New: o.New, Size: o.N}
	if o.Kind == api.OList { // its N says where, not how great
		x.Size = 0
	}
	return x
}

func within(n, least, most int) bool {
	return least <= n && n <= most
}
