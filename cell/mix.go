package cell

import "taskmill/api"

// Mix has each pick let a task do the next of its ops: the memory then, and what each task's ops have told.
func Mix(mem []int, tasks [][]api.Op, picks []int) ([]int, [][]int, api.Fault) {
	if f := checkMix(mem, tasks, picks); f.Code != api.OK {
		return nil, nil, f
	}
	byKind := deeds()
	now := fresh(mem)
	told := make([][]int, len(tasks))
	for _, t := range picks {
		done := len(told[t]) // every op tells one number, so these count what is done
		if done < len(tasks[t]) {
			told[t] = append(told[t], do(byKind, now, tasks[t][done]))
		}
	}
	return now, told, api.Fault{}
}

func checkMix(mem []int, tasks [][]api.Op, picks []int) api.Fault {
	if len(tasks) > api.MaxTask || len(picks) > api.MaxOps {
		return api.Fault{Code: api.ErrMany}
	}
	if f := checkTasks(mem, tasks); f.Code != api.OK {
		return f
	}
	for i, t := range picks {
		if t < 0 || t >= len(tasks) {
			return api.Fault{Code: api.ErrRange, At: i}
		}
	}
	return api.Fault{}
}

// checkTasks answers what Check says of the memory and the first task of which it says anything.
func checkTasks(mem []int, tasks [][]api.Op) api.Fault {
	for _, ops := range tasks {
		if f := Check(mem, ops); f.Code != api.OK {
			return f
		}
	}
	return api.Fault{}
}
