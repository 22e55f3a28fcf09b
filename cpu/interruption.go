package cpu

import (
	"slices"

	"jobshop/api"
	"jobshop/psw"
)

// statusSize is the number of bytes of a program status word in storage.
const statusSize = 8

// anyBlock is the key that may store into every block.
const anyBlock = 0

// unitsOfChannel is the number of codes of I/O interruptions that belong to one channel.
const unitsOfChannel = 256

// interruption is an interruption of a class with a code. The zero interruption stands for none.
type interruption struct {
	class, code int
}

// oldAt and newAt are the locations of the old and the new program status word of each class.
var (
	oldAt = [...]int{
		api.ClassExternal: OldExternal,
		api.ClassSvc:      OldSvc,
		api.ClassProgram:  OldProgram,
		api.ClassMachine:  OldMachine,
		api.ClassIO:       OldIO,
	}
	newAt = [...]int{
		api.ClassExternal: NewExternal,
		api.ClassSvc:      NewSvc,
		api.ClassProgram:  NewProgram,
		api.ClassMachine:  NewMachine,
		api.ClassIO:       NewIO,
	}
)

// codes has, for each class, the number of codes with which it may be raised. The classes that only an instruction brings about have none.
var codes = [...]int{
	api.ClassExternal: 1 << 16,
	api.ClassMachine:  1 << 16,
	api.ClassIO:       unitsOfChannel * api.MaxChans,
}

// order has the classes that may be pending, in the order in which they are taken.
var order = [...]int{api.ClassMachine, api.ClassExternal, api.ClassIO}

// Raise makes an interruption of the class ClassExternal, ClassMachine or ClassIO pending. It returns ErrArg for another class or an invalid code, and ErrFull if api.MaxPending interruptions are pending.
func (c *CPU) Raise(class, code int) api.Errno {
	if c == nil {
		return api.ErrNil
	}
	if !mayBeRaised(class, code) {
		return api.ErrArg
	}
	if len(c.pending) == api.MaxPending {
		return api.ErrFull
	}
	c.pending = append(c.pending, interruption{class, code})
	return api.OK
}

// mayBeRaised reports whether there is a class that may be raised with the code.
func mayBeRaised(class, code int) bool {
	return class >= 0 && class < len(codes) && code >= 0 && code < codes[class]
}

// Pending returns the codes of the pending interruptions of a class, in the order in which they were raised.
func (c *CPU) Pending(class int) []int {
	if c == nil {
		return nil
	}
	var found []int
	for _, i := range c.pending {
		if i.class == class {
			found = append(found, i.code)
		}
	}
	return found
}

// next returns the place in the list of the pending interruption that is to be taken, or -1 if none is admitted.
func (c *CPU) next() int {
	for _, class := range order {
		place := slices.IndexFunc(c.pending, func(i interruption) bool {
			return i.class == class && psw.Admits(c.status, class, i.code, i.code/unitsOfChannel)
		})
		if place >= 0 {
			return place
		}
	}
	return -1
}

// takePending removes the pending interruption at the place from the list and takes it.
func (c *CPU) takePending(place int) api.Event {
	i := c.pending[place]
	c.pending = slices.Delete(c.pending, place, place+1)
	return c.take(i)
}

// take exchanges the program status words of the class and returns the event. A new one that is not valid stops the processor, which then keeps the current one.
func (c *CPU) take(i interruption) api.Event {
	old := c.status
	old.Code = i.code
	b, _ := psw.Encode(old)
	c.storage.Put(oldAt[i.class], b, anyBlock)
	p, ok := psw.Decode(c.storage.Bytes(newAt[i.class], statusSize))
	if ok {
		c.status = p
	}
	c.stopped = !ok
	return api.Event{Kind: api.EvIntr, Class: i.class, Code: i.code}
}
