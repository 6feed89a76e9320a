package vault

import "intaglio/api"

// step is something that may go wrong.
type step func() api.Errno

// inOrder does steps one behind the other, up to the first error, and tells it.
func inOrder(steps ...step) api.Errno {
	for _, do := range steps {
		if e := do(); e != api.OK {
			return e
		}
	}
	return api.OK
}
