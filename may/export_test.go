package may

import "scrubstore/api"

// WalkBy is Walk of stores that do as they are told here, which may be wrong.
func WalkBy(l []api.Step, do func(api.Store, api.Step) api.Store) (int, bool) { return walk(l, do) }
