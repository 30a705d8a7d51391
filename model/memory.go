package model

import (
	"maps"
	"slices"

	"gantlet/api"
	"gantlet/graph"
	"gantlet/value"
)

// change is what something had: a field; or, of no field, a header.
type change struct {
	object, field int
	v             api.Val
	head          api.Head
}

// what a change is of, beside fields.
const (
	aHeader  = -1
	anObject = -2 // that was not there
)

// memory is all objects that ever were there, and what they had ahead of the unit that is done.
type memory struct {
	l       []api.Object
	at      map[api.Val]int // where each stands
	changes []change
}

func (y *memory) fork() memory {
	f := memory{l: slices.Clone(y.l), at: maps.Clone(y.at)}
	for i := range f.l {
		f.l[i].F = slices.Clone(f.l[i].F)
	}
	return f
}

// add has a new object, as heap makes it.
func (y *memory) add(ref api.Val, head api.Head) {
	o := api.Object{Ref: ref, Head: head}
	for f := range head.Fields {
		v := value.Number(0)
		if head.Mask>>f&1 == 1 {
			v = value.Nil()
		}
		o.F = append(o.F, v)
	}
	y.changes = append(y.changes, change{object: len(y.l), field: anObject})
	y.at[ref] = len(y.l)
	y.l = append(y.l, o)
}

func (y *memory) put(object, field int, v api.Val) {
	y.changes = append(y.changes, change{object: object, field: field, v: y.l[object].F[field]})
	y.l[object].F[field] = v
}

func (y *memory) turn(object int, s api.State) {
	y.changes = append(y.changes, change{object: object, field: aHeader, head: y.l[object].Head})
	y.l[object].Head.State = s
}

// back takes changes back, from the last one on, till so many are left.
func (y *memory) back(left int) {
	for n := len(y.changes) - 1; n >= left; n-- {
		c := y.changes[n]
		switch c.field {
		case anObject:
			delete(y.at, y.l[c.object].Ref)
			y.l = y.l[:c.object]
		case aHeader:
			y.l[c.object].Head = c.head
		default:
			y.l[c.object].F[c.field] = c.v
		}
	}
	y.changes = y.changes[:left]
}

// forget has all changes stay.
func (y *memory) forget() { y.changes = nil }

// fresh tells whether references may be those of new objects.
func (y *memory) fresh(news []api.Val) bool {
	met := map[api.Val]int{}
	for n, ref := range news {
		_, again := met[ref]
		_, was := y.at[ref]
		if again || was || value.Addr(ref) == 0 {
			return false
		}
		met[ref] = n
	}
	return true
}

// find is where the object of a reference stands, or the reference's error.
func (y *memory) find(ref api.Val) (int, api.Errno) {
	if ref.K != api.Ref || value.Check(ref) != api.OK {
		return 0, api.ErrKind
	}
	if value.IsNil(ref) {
		return 0, api.ErrDeref
	}
	at, was := y.at[ref]
	if !was || y.l[at].Head.State == api.Freed {
		return 0, api.ErrFreed
	}
	return at, api.OK
}

func (y *memory) load(ref api.Val, field int) (api.Val, api.Errno) {
	at, e := y.find(ref)
	if e != api.OK {
		return api.Val{}, e
	}
	if field < 0 || field >= len(y.l[at].F) {
		return api.Val{}, api.ErrField
	}
	return y.l[at].F[field], api.OK
}

// owns tells whether an object is a thread's own.
func (y *memory) owns(ref api.Val, owner int) bool {
	at, e := y.find(ref)
	return e == api.OK && y.l[at].Head.State == api.Private && y.l[at].Head.Owner == owner
}

// private is the private objects: a closure has no others, and those that are gone may be many.
func (y *memory) private() []api.Object {
	var l []api.Object
	for _, o := range y.l {
		if o.Head.State == api.Private {
			l = append(l, o)
		}
	}
	return l
}

func (y *memory) store(ref api.Val, field int, v api.Val, owner int) api.Errno {
	if _, e := y.load(ref, field); e != api.OK {
		return e
	}
	at := y.at[ref]
	refs := y.l[at].Head.Mask>>field&1 == 1
	if value.Check(v) != api.OK || (v.K == api.Ref) != refs {
		return api.ErrKind
	}
	y.put(at, field, v)
	if !y.owns(ref, owner) && y.owns(v, owner) {
		for _, x := range graph.Closure(y.private(), v) {
			y.turn(y.at[x], api.Shared)
		}
	}
	return api.OK
}

func (y *memory) free(ref api.Val, owner int, within bool) api.Errno {
	at, e := y.find(ref)
	if e != api.OK {
		return e
	}
	if ref == root() || !within && !y.owns(ref, owner) {
		return api.ErrFree
	}
	y.turn(at, api.Freed)
	return api.OK
}
