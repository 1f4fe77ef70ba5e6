package file

import (
	"strings"

	"cairn/api"
)

func isComposite(kind int) bool {
	return api.OReadAt <= kind && kind <= api.OCopy
}

// refusal tells why an operation is refused at once; OK: it is not, or it is atomic, and the client judges it.
func (u *User) refusal(o api.Op) api.Errno {
	c := u.by()
	switch {
	case c.Fallen():
		return api.ErrFallen
	case u.Pending(), c.Pending():
		return api.ErrBusy
	case !isComposite(o.Kind):
		return api.OK
	case !namesAll(o):
		return api.ErrOp
	case c.Number() >= api.MaxNum:
		return api.ErrWorn
	case !isName(o.Name):
		return api.ErrName
	case !isWithin(o, api.MaxIndex*c.Config().Block):
		return api.ErrSize
	case o.Kind == api.OCopy && !isName(o.Other):
		return api.ErrName
	}
	return api.OK
}

// namesAll tells whether a composite operation has nothing that its kind does not name.
func namesAll(o api.Op) bool {
	none := api.File{}
	switch {
	case o.File != none, o.New != none:
		return false
	case o.Other != "" && o.Kind != api.OCopy:
		return false
	case o.At != 0 && o.Kind != api.OReadAt && o.Kind != api.OWriteAt:
		return false
	case o.N != 0 && o.Kind != api.OReadAt && o.Kind != api.OTruncate:
		return false
	case len(o.Data) > 0 && o.Kind != api.OWriteAt:
		return false
	}
	return true
}

func isName(s string) bool {
	return 1 <= len(s) && len(s) <= api.MaxName && strings.IndexByte(s, 0) < 0 && strings.IndexByte(s, '/') < 0
}

// isWithin tells whether a composite operation stays within the greatest size. (No sum is made that could wrap. What a kind does not name is zero.)
func isWithin(o api.Op, most int) bool {
	length := o.N + len(o.Data)
	return 0 <= o.At && 0 <= length && length <= most-o.At
}
