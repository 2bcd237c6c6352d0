package volume_test

import (
	"fmt"

	"lavabo/api"
	"lavabo/attach"
	"lavabo/cache"
	"lavabo/dev"
	"lavabo/forms"
	"lavabo/purge"
	"lavabo/volume"
	"lavabo/writeback"
)

// It is what README.md tells.
func Example() {
	super := forms.Super{Blocks: 16, Slots: 4, Journal: 8, Pages: 1, Logs: 4, Batch: 2}
	plan, _ := cache.Plan(super)
	ssd, _ := dev.New(plan.Size)
	back, _ := dev.New(super.Blocks)
	attach.Format(super, ssd, back)
	v, _ := volume.Open(ssd, back, writeback.Policy{High: 3, Low: 1, Batch: 2})
	v.Write(3, true, api.Block{1, 2, 3}) // firm: it is there behind a crash
	id, _ := v.Purge(api.Span{From: 2, N: 3})
	for state, _ := v.Poll(id); state == purge.Going; state, _ = v.Poll(id) {
		v.Tick()
	}
	state, _ := v.Poll(id)
	l, _ := v.Read(api.Span{From: 3, N: 1})
	fmt.Println(state == purge.Done, l[0] == api.Block{})
	// Output: true true
}
