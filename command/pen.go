package command

import (
	"math"

	"jobber/api"
	"jobber/codec"
	"jobber/rules"
)

// pen is what is done with a field, by its type.
type pen struct {
	small func(n *int)
	whole func(n *int64)
	nat   func(n *uint64)
	rules func(r *api.Rules)
}

// writing tells a pen that writes fields.
func writing(w *codec.Writer) pen {
	return pen{
		small: func(n *int) { w.Int(int64(*n)) },
		whole: func(n *int64) { w.Int(*n) },
		nat:   func(n *uint64) { w.Nat(*n) },
		rules: func(r *api.Rules) { rules.Put(w, *r) },
	}
}

// reading tells a pen that reads fields.
func reading(d *codec.Reader) pen {
	return pen{
		small: func(n *int) { *n = int(d.Int()) },
		whole: func(n *int64) { *n = d.Int() },
		nat:   func(n *uint64) { *n = d.Nat(math.MaxUint64) },
		rules: func(r *api.Rules) { *r, _ = rules.Read(d) }, // where there are none, the reader is bad
	}
}

// wiping tells a pen that makes fields zero.
func wiping() pen {
	return pen{
		small: func(n *int) { *n = 0 },
		whole: func(n *int64) { *n = 0 },
		nat:   func(n *uint64) { *n = 0 },
		rules: func(r *api.Rules) { *r = api.Rules{} },
	}
}
