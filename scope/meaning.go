package scope

import "plover/api"

// sort is a sort of things that have names.
type sort int

const (
	number sort = iota + 1 // a local, or a global
	array
	structure // a global that has fields
	shape     // the type of such globals
	function
)

// meaning is what a name means: its sort, and, as far as that sort has it, what an expression of it becomes.
type meaning struct {
	sort   sort
	op     int // the kind of the expression
	typ    int
	ref    int // a local's number, or the first word's address
	count  int // of an array's elements
	fields []api.Param
}

// meanings tells what names mean, each one thing.
type meanings map[string]meaning

// needNew gives up, at that place, if a name means something already.
func (m meanings) needNew(name string, at int) {
	if _, is := m[name]; is {
		panic(fault(api.ErrTwice, at))
	}
}
