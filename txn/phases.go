package txn

import (
	"slices"

	"gantlet/api"
	"gantlet/graph"
	"gantlet/heap"
	"gantlet/value"
)

// header is told as the field of a step that turned a header.
const header = -1

// step is one of the thread's, of its attempt.
func (x *Txn) step(k api.StepKind) api.Step {
	return api.Step{Kind: k, Thread: x.t, Began: x.began}
}

// at is a step that touched an object.
func (x *Txn) at(k api.StepKind, ref api.Val, field int) api.Step {
	s := x.step(k)
	s.Ref, s.Field = ref, field
	return s
}

// goOn goes on with another phase at the next step.
func (x *Txn) goOn(k api.StepKind, next phase) (api.Step, Outcome) {
	x.phase = next
	return x.step(k), More
}

// takeBack has all taken back from the next step on.
func (x *Txn) takeBack(ending Outcome, why api.Errno) {
	x.m.Firm(x.t)
	x.ending, x.why, x.phase = ending, why, x.undo
}

// fault is a step with which the attempt fails.
func (x *Txn) fault(s api.Step, e api.Errno) (api.Step, Outcome) {
	x.takeBack(Failed, e)
	return s, More
}

// owns tells whether an object is the thread's own.
func (x *Txn) owns(ref api.Val) bool {
	head, ok := x.m.Heap().Head(ref)
	return ok && head.State == api.Private && head.Owner == x.t
}

// has is what a field has.
func (x *Txn) has(ref api.Val, field int) (api.Val, api.Errno) {
	if head, ok := x.m.Heap().Head(ref); ok && head.State == api.Freed {
		return api.Val{}, api.ErrFreed
	}
	return x.m.Heap().Load(ref, field)
}

func (x *Txn) full() bool { return x.log.Len() >= x.m.Conf().Undo }

// enter begins an attempt. One that gave way to older ones waits till these are gone, so that it does not stand in their way again.
func (x *Txn) enter(now int) (api.Step, Outcome) {
	if x.stamp != 0 && x.m.Conf().Manager == api.Greedy && x.older() {
		return api.Step{Kind: api.SWait, Thread: x.t}, More
	}
	if x.stamp == 0 {
		x.stamp = x.m.Clock().Stamp()
	}
	x.m.Slots().Enter(x.t)
	x.m.Start(x.t, x.stamp)
	x.attempt = attempt{open: true, began: now}
	x.reads.Clear()
	x.log.Clear()
	x.held.Clear()
	return x.goOn(api.SEpoch, x.snapshot)
}

// older tells whether another thread's transaction began ahead of this one.
func (x *Txn) older() bool {
	found := false
threads:
	for u := range x.m.Threads() {
		if s := x.m.Stamp(u); u != x.t && s != 0 && s < x.stamp {
			found = true
			break threads
		}
	}
	return found
}

func (x *Txn) snapshot(now int) (api.Step, Outcome) {
	x.rv, x.since = x.m.Clock().Now(), now
	return x.step(api.SClock), Done
}

// look looks at an object's header: what is the thread's own is touched without a record.
func (x *Txn) look(now int) (api.Step, Outcome) {
	switch {
	case x.ref.K != api.Ref || value.Check(x.ref) != api.OK:
		return x.fault(x.step(api.SLook), api.ErrKind)
	case value.IsNil(x.ref):
		return x.fault(x.step(api.SLook), api.ErrDeref)
	case x.owns(x.ref):
		return x.own(now)
	}
	x.record = x.m.Orecs().Index(x.ref)
	if x.owns(x.v) {
		x.marks = graph.Closure(x.m.Heap().Objects(), x.v)
		return x.goOn(api.SLook, x.mark)
	}
	return x.goOn(api.SLook, x.ask)
}

func (x *Txn) lookToFree(now int) (api.Step, Outcome) {
	if x.ref == x.m.Heap().Root() {
		return x.fault(x.step(api.SLook), api.ErrFree)
	}
	return x.look(now)
}

// mark shares the next private object that a shared one is to refer to.
func (x *Txn) mark(now int) (api.Step, Outcome) {
	ref := x.marks[0]
	s := x.at(api.SMark, ref, 0)
	if x.full() {
		return x.fault(s, api.ErrUndo)
	}
	x.turn(ref, api.Shared)
	x.marks = x.marks[1:]
	if len(x.marks) == 0 {
		x.phase = x.ask
	}
	return s, More
}

// turn gives an object another state; the log must have room.
func (x *Txn) turn(ref api.Val, s api.State) {
	head, _ := x.m.Heap().Head(ref)
	x.log.Push(api.Old{Ref: ref, Field: header, Head: true, State: head.State})
	x.m.Heap().Put(ref, s)
}

// ask reads the record.
func (x *Txn) ask(now int) (api.Step, Outcome) {
	x.was = x.m.Orecs().At(x.record)
	x.holds = x.was.K == api.Owned && x.was.N == x.t
	switch {
	case x.holds:
		return x.goOn(api.SOrec, x.mine)
	case x.was.K != api.Version:
		return x.meet(x.was, false)
	case x.was.N > x.rv:
		return x.goOn(api.SOrec, x.extend)
	}
	return x.goOn(api.SOrec, x.free)
}

// meet is what it does that finds a record which somebody else has. A check asks as if the other one were not firm: two commits that wait for one another's records would wait for ever.
func (x *Txn) meet(o api.Orec, check bool) (api.Step, Outcome) {
	if o.K == api.Anon {
		return x.step(api.SWait), More
	}
	firm := !check && x.m.IsFirm(o.N)
	switch x.m.Verdict(x.t, o.N, int(x.tried.Load()), firm) {
	case api.Doom:
		x.m.Doom(o.N)
		fallthrough
	case api.Wait:
		x.tried.Add(1)
		return x.step(api.SWait), More
	}
	x.takeBack(Gave, api.OK)
	if check {
		return x.step(api.SCheck), More
	}
	return x.step(api.SOrec), More
}

func (x *Txn) loadOwn(now int) (api.Step, Outcome) {
	s := x.at(api.SLoad, x.ref, x.field)
	v, e := x.has(x.ref, x.field)
	if e != api.OK {
		return x.fault(s, e)
	}
	x.result = v
	return s, Done
}

func (x *Txn) loadField(now int) (api.Step, Outcome) {
	s := x.at(api.SLoad, x.ref, x.field)
	x.got, x.gotError = x.has(x.ref, x.field)
	if !x.holds {
		x.phase = x.again
		return s, More
	}
	if x.gotError != api.OK {
		return x.fault(s, x.gotError)
	}
	version, _ := x.held.Has(x.record)
	return x.noteRead(s, version)
}

// again looks whether the record is still as it was ahead of the field.
func (x *Txn) again(now int) (api.Step, Outcome) {
	if x.m.Orecs().At(x.record) != x.was {
		return x.goOn(api.SOrec, x.ask)
	}
	return x.noteRead(x.step(api.SOrec), x.was.N)
}

// noteRead has the record in the read set, and the field noted, unless its value is the attempt's own.
func (x *Txn) noteRead(s api.Step, version int) (api.Step, Outcome) {
	if e := x.reads.Add(x.record, version); e != api.OK {
		return x.fault(s, e)
	}
	if x.gotError != api.OK {
		return x.fault(s, x.gotError)
	}
	if _, wrote := x.log.First(x.ref, x.field); !wrote && !slices.Contains(x.news, x.ref) {
		x.seen = append(x.seen, api.Read{Ref: x.ref, Field: x.field, V: x.got})
	}
	x.result = x.got
	return s, Done
}

// take takes the record, if it is still as it was.
func (x *Txn) take(now int) (api.Step, Outcome) {
	if !x.m.Orecs().Take(x.record, x.was.N, api.Orec{K: api.Owned, N: x.t}) {
		return x.goOn(api.SLock, x.ask)
	}
	x.held.Add(x.record, x.was.N)
	return x.goOn(api.SLock, x.mine)
}

// write writes a field.
func (x *Txn) write(now int) (api.Step, Outcome) {
	s := x.at(api.SStore, x.ref, x.field)
	had, e := x.has(x.ref, x.field)
	if e != api.OK {
		return x.fault(s, e)
	}
	if x.full() {
		return x.fault(s, api.ErrUndo)
	}
	if e := x.m.Heap().Store(x.ref, x.field, x.v); e != api.OK {
		return x.fault(s, e)
	}
	x.log.Push(api.Old{Ref: x.ref, Field: x.field, V: had})
	return s, Done
}

// giveBack gives the object back; its place is used again behind the commit alone.
func (x *Txn) giveBack(now int) (api.Step, Outcome) {
	s := x.at(api.SStore, x.ref, header)
	if head, ok := x.m.Heap().Head(x.ref); !ok || head.State == api.Freed {
		return x.fault(s, api.ErrFreed)
	}
	if x.full() {
		return x.fault(s, api.ErrUndo)
	}
	x.turn(x.ref, api.Freed)
	x.frees = append(x.frees, x.ref)
	return s, Done
}

func (x *Txn) make(now int) (api.Step, Outcome) {
	ref, e := x.m.Heap().Alloc(x.fields, x.mask, x.t)
	s := x.at(api.SHeap, ref, 0)
	if e != api.OK {
		return x.fault(s, e)
	}
	x.news = append(x.news, ref)
	x.result = ref
	return s, Done
}

// extend asks for a later snapshot: what was read must not have changed.
func (x *Txn) extend(now int) (api.Step, Outcome) {
	x.clock, x.then = x.m.Clock().Now(), now
	if x.reads.Len() == 0 {
		x.extended()
		return x.step(api.SClock), More
	}
	x.entry, x.passed = 0, x.extended
	return x.goOn(api.SClock, x.check)
}

func (x *Txn) extended() {
	x.rv, x.since, x.phase = x.clock, x.then, x.ask
}

// check looks at the next entry of the read set.
func (x *Txn) check(now int) (api.Step, Outcome) {
	e, _ := x.reads.At(x.entry)
	o := x.m.Orecs().At(e.Orec)
	version, holds := x.held.Has(e.Orec)
	switch {
	case o.K == api.Version && o.N == e.Version, o.K == api.Owned && o.N == x.t && holds && version == e.Version:
		x.entry++
		if x.entry == x.reads.Len() {
			x.passed()
		}
	case o.K == api.Anon, o.K == api.Owned && o.N != x.t:
		return x.meet(o, true)
	default:
		x.takeBack(Gave, api.OK)
	}
	return x.step(api.SCheck), More
}

// writeBack has an object as it was ahead of an entry of the log.
func writeBack(h *heap.Heap, old api.Old) {
	if old.Head {
		h.Put(old.Ref, old.State)
	} else {
		h.Store(old.Ref, old.Field, old.V)
	}
}

// popOld writes the log's last entry back.
func (x *Txn) popOld() api.Step {
	old, _ := x.log.Pop()
	writeBack(x.m.Heap(), old)
	if old.Head {
		return x.at(api.SUndo, old.Ref, header)
	}
	return x.at(api.SUndo, old.Ref, old.Field)
}

// popNew releases the last object that it made.
func (x *Txn) popNew() api.Step {
	last := len(x.news) - 1
	ref := x.news[last]
	x.news = x.news[:last]
	x.m.Heap().Release(ref)
	return x.at(api.SHeap, ref, 0)
}

func (x *Txn) back(now int) (api.Step, Outcome) {
	switch {
	case x.log.Len() > x.to.Undo:
		return x.popOld(), More
	case len(x.news) > x.to.News:
		return x.popNew(), More
	}
	x.frees = x.frees[:x.to.Frees]
	return x.step(api.SLocal), Rolled
}

// stop ends an attempt that parks, or fails.
func (x *Txn) stop(now int) (api.Step, Outcome) {
	x.takeBack(x.ending, x.why)
	return x.step(api.SLocal), More
}

// undo takes an attempt back: fields ahead of the records that guard them, objects behind all that referred to them.
func (x *Txn) undo(now int) (api.Step, Outcome) {
	if x.log.Len() > 0 {
		return x.popOld(), More
	}
	if e, ok := x.held.Take(); ok {
		x.m.Orecs().Let(e.Orec, e.Version)
		return x.step(api.SFree), More
	}
	if len(x.news) > 0 {
		return x.popNew(), More
	}
	x.leaveAll()
	x.open, x.frees = false, nil
	switch x.ending {
	case Parked:
		x.waits = x.reads.All()
	case Failed:
		x.err = x.why
	}
	if x.ending != Gave {
		x.stamp = 0
	}
	return x.step(api.SEpoch), x.ending
}

func (x *Txn) leaveAll() {
	x.m.Slots().Leave(x.t)
	x.m.End(x.t)
}

// commit ends a block that wrote nothing by records at once; another one takes its version.
func (x *Txn) commit(now int) (api.Step, Outcome) {
	if x.held.Len() == 0 {
		x.leaveAll()
		x.certain, x.moment = true, x.since
		return x.release(x.step(api.SEpoch))
	}
	if x.m.Clock().Full() {
		return x.fault(x.step(api.SClock), api.ErrClock)
	}
	x.version, x.moment = x.m.Clock().Next(), now
	x.m.Firm(x.t)
	x.entry, x.passed, x.phase = 0, x.sure, x.check
	if x.reads.Len() == 0 {
		x.sure()
	}
	return x.step(api.SClock), More
}

func (x *Txn) sure() { x.certain, x.phase = true, x.let }

// let lets the next record go.
func (x *Txn) let(now int) (api.Step, Outcome) {
	e, _ := x.held.Take()
	x.m.Orecs().Let(e.Orec, x.version)
	if x.held.Len() == 0 {
		x.phase = x.leave
	}
	return x.step(api.SFree), More
}

func (x *Txn) leave(now int) (api.Step, Outcome) {
	x.leaveAll()
	return x.goOn(api.SEpoch, x.fence)
}

// fence notes who is within a transaction now.
func (x *Txn) fence(now int) (api.Step, Outcome) {
	x.snap = x.m.Slots().Snap()
	return x.goOn(api.SEpoch, x.pass)
}

// pass waits till all these have gone.
func (x *Txn) pass(now int) (api.Step, Outcome) {
	if !x.m.Slots().Passed(x.t, x.snap) {
		return x.step(api.SWait), More
	}
	return x.release(x.step(api.SEpoch))
}

// release goes on to the objects that were given back, behind a step; are there no more, all is done.
func (x *Txn) release(s api.Step) (api.Step, Outcome) {
	if x.released < len(x.frees) {
		x.phase = x.releaseOne
		return s, More
	}
	x.open, x.stamp = false, 0
	return s, Done
}

func (x *Txn) releaseOne(now int) (api.Step, Outcome) {
	ref := x.frees[x.released]
	x.released++
	x.m.Heap().Release(ref)
	return x.release(x.at(api.SHeap, ref, 0))
}
