package model

import (
	"slices"

	"gantlet/api"
	"gantlet/instr"
	"gantlet/regs"
	"gantlet/value"
)

// unit is what is done at once: it ends, or can't be done now; with an error, if it has one.
type unit interface {
	kind() api.EventKind
	do(w *work) (bool, api.Errno)
}

// work is a unit that is done.
type work struct {
	thread *thread
	memory *memory
	owner  int
	news   []api.Val
	taken  int  // how many new references were, also beyond News
	within bool // a block
}

// ref is the next reference of a new object. Where News do not suffice it is one that was never there, and never will be: the unit is taken back then.
func (w *work) ref() api.Val {
	w.taken++
	if w.taken <= len(w.news) {
		return w.news[w.taken-1]
	}
	for n := w.taken; ; n++ {
		ref, _ := value.Of(api.MaxGen-n/api.MaxAddr, api.MaxAddr-n%api.MaxAddr)
		if _, was := w.memory.at[ref]; !was && !slices.Contains(w.news, ref) {
			return ref
		}
	}
}

// touch does the instruction of memory at the thread's place.
func (w *work) touch() api.Errno {
	t := w.thread
	i := t.p[t.place]
	e := api.OK
	switch i.Op {
	case api.ONew:
		ref := w.ref()
		w.memory.add(ref, api.Head{Gen: value.Gen(ref), Fields: i.B, Mask: i.C, State: api.Private, Owner: w.owner})
		t.regs = regs.Put(t.regs, i.A, ref)
	case api.OGet:
		var v api.Val
		if v, e = w.memory.load(t.regs[i.B], i.C); e == api.OK {
			t.regs = regs.Put(t.regs, i.A, v)
		}
	case api.OSet:
		e = w.memory.store(t.regs[i.A], i.B, t.regs[i.C], w.owner)
	case api.OFree:
		e = w.memory.free(t.regs[i.A], w.owner, w.within)
	}
	if e == api.OK {
		t.place++
	}
	return e
}

// single is an instruction of memory outside of blocks.
type single struct{}

func (single) kind() api.EventKind { return api.EPlain }

func (single) do(w *work) (bool, api.Errno) { return true, w.touch() }

// stack is things one upon the other.
type stack[T any] struct{ items []T }

func (s *stack[T]) push(v T) { s.items = append(s.items, v) }

// pop takes the last one; there must be one.
func (s *stack[T]) pop() T {
	v := s.items[len(s.items)-1]
	s.items = s.items[:len(s.items)-1]
	return v
}

func (s *stack[T]) empty() bool { return len(s.items) == 0 }

// way is a block that is begun and not ended, and all as it was at its beginning.
type way struct {
	begin          int
	regs           [api.Regs]api.Val
	told           int
	changes, taken int
	other          bool // it is its other way
}

// block is a whole block.
type block struct{}

func (block) kind() api.EventKind { return api.EBlock }

func (block) do(w *work) (bool, api.Errno) {
	w.within = true
	t := w.thread
	var ways stack[way]
	for range api.MaxSteps {
		e := api.OK
		switch i := t.p[t.place]; i.Op {
		case api.OBegin:
			ways.push(way{begin: t.place, regs: t.regs, told: len(t.told), changes: len(w.memory.changes), taken: w.taken})
			t.place++
		case api.OElse:
			ways.pop()
			t.place = t.mates[t.place] + 1
		case api.OEnd:
			ways.pop()
			t.place++
		case api.ORetry:
			if !w.retry(&ways) {
				return false, api.OK
			}
		default:
			if instr.Local(i.Op) {
				e = t.local()
			} else {
				e = w.touch()
			}
		}
		if e != api.OK || ways.empty() {
			return true, e
		}
	}
	return false, api.OK
}

// retry goes to the innermost other way that is left, if there is one.
func (w *work) retry(ways *stack[way]) bool {
	t := w.thread
	for !ways.empty() {
		v := ways.pop()
		mate := t.mates[v.begin]
		if v.other || t.p[mate].Op != api.OElse {
			continue
		}
		w.memory.back(v.changes)
		w.taken = v.taken
		t.regs, t.told, t.place = v.regs, t.told[:v.told], mate+1
		v.other = true
		ways.push(v)
		return true
	}
	return false
}
