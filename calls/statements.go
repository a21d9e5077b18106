package calls

import (
	"iter"

	"plover/api"
)

// statementsOf tells all statements of a body, also those within blocks.
func statementsOf(body []api.Stmt) iter.Seq[api.Stmt] {
	return func(yield func(api.Stmt) bool) {
		// It calls itself, rather than to range over statementsOf within each block: so a statement is not handed out through all blocks around it.
		var through func(body []api.Stmt) bool
		through = func(body []api.Stmt) bool {
			for _, s := range body {
				if !yield(s) || !through(s.Body) || !through(s.Else) {
					return false
				}
			}
			return true
		}
		through(body)
	}
}
