package poll_test

import (
	"fmt"
	"testing"

	"taskmill/api"
	"taskmill/poll"
)

// spoil writes over all the memory of a list, also behind its length.
func spoil(list []int) {
	whole := list[:cap(list)]
	for i := range whole {
		whole[i] = 4444
	}
}

// apart spoils one answer, and looks whether another one ahead of it, or the next, has changed.
func apart(t *testing.T, what string, call func() []int) {
	t.Helper()
	ahead := call()
	want := fmt.Sprint(ahead)
	spoil(call())
	same(t, what+": the answer ahead", ahead, want)
	same(t, what+": the next answer", call(), want)
}

// What is answered is new memory: no two answers share any, and none is kept.
func TestMemoryIsApart(t *testing.T) {
	descs := rightDescs()
	for _, w := range wrongDescs() {
		descs = append(descs, rightDesc{w.what, w.d})
	}
	for _, r := range descs {
		d := r.d
		for _, now := range []int{0, 2, 5, much, -1} {
			apart(t, r.what+": tick", func() []int {
				_, tasks, _ := poll.Tick(d, now)
				return tasks
			})
		}
		apart(t, r.what+": close", func() []int {
			_, tasks, _, _ := poll.Close(d)
			return tasks
		})
		same(t, r.what+": what was handed in", d, r.d)
	}
}

// The descriptor that is answered is another one than that which was handed in: to go on with one leaves the other as it was.
func TestDescriptorsAreApart(t *testing.T) {
	d := desc(task(0, 1), until(0, 5), until(1, 9))
	before := d
	var thens []api.Desc
	then, _, _ := poll.Wait(d, 1, 2, 3)
	thens = append(thens, then)
	then, _, _ = poll.Fire(d, 0)
	thens = append(thens, then)
	then, _, _ = poll.Until(d, 0, 2, 3)
	thens = append(thens, then)
	then, _, _ = poll.Tick(d, 6)
	thens = append(thens, then)
	then, _, _, _ = poll.Close(d)
	thens = append(thens, then)
	for i, then := range thens {
		if then == before {
			t.Errorf("%d: nothing changed", i)
		}
	}
	same(t, "what was handed in", d, before)
}
