package pipe

import "taskmill/api"

// What is done here is done to a pipe whose memory is the call's own: its lists may be cut and written on.

// send brings a value to the first getter, or to the items, or has its sender wait.
func send(p api.Pipe, by api.Post, try bool) (api.Pipe, api.Answer) {
	switch {
	case p.Closed:
		return p, api.Answer{Done: true, Panic: true}
	case len(p.Getters) > 0:
		wake := woken(p.Getters[0], api.Wake{Value: by.Value, Ok: true})
		p.Getters = p.Getters[1:]
		return p, api.Answer{Done: true, Wakes: []api.Wake{wake}}
	case len(p.Items) < p.Cap:
		p.Items = append(p.Items, by.Value)
		return p, api.Answer{Done: true}
	case !try:
		p.Senders = append(p.Senders, by)
	}
	return p, api.Answer{}
}

// get takes the first item, or, if there is none, the first sender's value, or has its getter wait.
func get(p api.Pipe, by api.Post, try bool) (api.Pipe, api.Answer) {
	switch {
	case len(p.Items)+len(p.Senders) > 0:
		return first(p)
	case p.Closed:
		return p, api.Answer{Done: true}
	case !try:
		p.Getters = append(p.Getters, by)
	}
	return p, api.Answer{}
}

// first takes the value that comes first. The first sender's value joins the items ahead of that: as the last of them,
// into the room that comes free, or, where there are none, as the one that is taken.
func first(p api.Pipe) (api.Pipe, api.Answer) {
	answer := api.Answer{Done: true, Ok: true}
	if len(p.Senders) > 0 {
		answer.Wakes = []api.Wake{woken(p.Senders[0], api.Wake{})}
		p.Items = append(p.Items, p.Senders[0].Value)
		p.Senders = p.Senders[1:]
	}
	answer.Value = p.Items[0]
	p.Items = p.Items[1:]
	return p, answer
}

// shut closes a pipe: getters go on without a value, senders panic.
func shut(p api.Pipe) (api.Pipe, api.Answer) {
	if p.Closed {
		return p, api.Answer{Done: true, Panic: true}
	}
	var wakes []api.Wake
	for _, getter := range p.Getters {
		wakes = append(wakes, woken(getter, api.Wake{}))
	}
	for _, sender := range p.Senders {
		wakes = append(wakes, woken(sender, api.Wake{Panic: true}))
	}
	p.Closed, p.Getters, p.Senders = true, nil, nil
	return p, api.Answer{Done: true, Wakes: wakes}
}
