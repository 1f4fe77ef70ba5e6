package server

import (
	"cairn/api"
	"cairn/mend"
	"cairn/msg"
)

// record is what a step lays down under a key; or, if it is gone, what it drops there.
type record struct {
	mend.Change
	gone bool
}

func bucketKey(number int) api.Key {
	return api.Key{Kind: api.KBucket, A: number}
}

func instanceKey(number, n int) api.Key {
	return api.Key{Kind: api.KInstance, A: number, B: n}
}

// read makes of a record's bytes what its key's kind says; pack the other way round.
func read(k api.Key, b []byte, c api.Config) (mend.Change, api.Errno) {
	x := mend.Change{Key: k}
	var err api.Errno
	switch k.Kind {
	case api.KBlock:
		x.Block, err = msg.ReadBlock(b, c)
	case api.KBucket:
		x.Bucket, err = msg.ReadBucket(b, c)
	case api.KInstance:
		x.Instance, err = msg.ReadInstance(b, c)
	}
	return x, err
}

func pack(x mend.Change, c api.Config) []byte {
	var b []byte
	switch x.Key.Kind {
	case api.KBlock:
		b, _ = msg.PackBlock(x.Block, c)
	case api.KBucket:
		b, _ = msg.PackBucket(x.Bucket, c)
	case api.KInstance:
		b, _ = msg.PackInstance(x.Instance, c)
	}
	return b
}
