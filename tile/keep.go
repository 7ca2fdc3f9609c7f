package tile

import (
	"cmp"
	"maps"
	"slices"
	"strconv"
	"strings"
	"sync"

	"tarnfell/api"
	"tarnfell/field"
	"tarnfell/recipe"
)

const maxWorkers = 64

// mark is what tiles must know of an edit that stands.
type mark struct {
	edit  api.Edit
	reach api.Region
	line  string
}

// job is all that the field of a tile hangs on besides the graph: the edits are those that touch it.
type job struct {
	region api.Region
	edits  []api.Edit
	key    string
}

// result is the field of a job, or why there is none.
type result struct {
	field api.Field
	e     api.Errno
}

// jobs gives those of some tiles.
func (w *World) jobs(tiles []api.Region) []job {
	ofGraph, _ := recipe.Key(w.graph)
	marks := w.marks()
	var jobs []job
	for _, r := range tiles {
		jobs = append(jobs, jobOf(ofGraph, r, marks))
	}
	return jobs
}

func (w *World) marks() []mark {
	var marks []mark
	for k, e := range w.done {
		reach, _ := Reach(w.done, k)
		line, _ := PrintEdit(e)
		marks = append(marks, mark{e, reach, line + "\n"})
	}
	return marks
}

func jobOf(ofGraph string, r api.Region, marks []mark) job {
	var text strings.Builder
	text.WriteString(ofGraph + "\n" + joined(r.X, r.Y, r.W, r.H) + "\n")
	var edits []api.Edit
	for _, m := range marks {
		if _, touches := field.Common(m.reach, r); touches {
			text.WriteString(m.line)
			edits = append(edits, m.edit)
		}
	}
	return job{r, edits, recipe.Digest(text.String())}
}

// joined writes numbers with one space between.
func joined(numbers ...int) string {
	var words []string
	for _, n := range numbers {
		words = append(words, strconv.Itoa(n))
	}
	return strings.Join(words, " ")
}

// Key is described in doc/08-tile.md, P179.
func (w *World) Key(k int) (string, api.Errno) {
	if e := w.checkTile(k); e != api.OK {
		return "", e
	}
	return w.jobs(w.tiles[k : k+1])[0].key, api.OK
}

// Stale is described in doc/08-tile.md, P179.
func (w *World) Stale() []int { return w.stale(w.jobs(w.tiles)) }

// stale gives the numbers of the jobs whose fields are not kept.
func (w *World) stale(jobs []job) []int {
	var stale []int
	for i, j := range jobs {
		if _, isKept := w.kept[j.key]; !isKept {
			stale = append(stale, i)
		}
	}
	return stale
}

// Tile is described in doc/08-tile.md, P180.
func (w *World) Tile(k int) (api.Field, api.Errno) {
	if e := w.checkTile(k); e != api.OK {
		return api.Field{}, e
	}
	fields, e := w.ask(w.tiles[k : k+1])
	if e != api.OK {
		return api.Field{}, e
	}
	f := fields[0]
	f.V = slices.Clone(f.V)
	return f, api.OK
}

// Join is described in doc/08-tile.md, P180.
func (w *World) Join() (api.Field, api.Errno) {
	fields, e := w.ask(w.tiles)
	if e != api.OK {
		return api.Field{}, e
	}
	whole := blank(w.region)
	for _, f := range fields {
		lay(whole, f)
	}
	return whole, api.OK
}

// ask gives the fields of tiles, as they are kept. With an error it leaves the world as it was.
func (w *World) ask(tiles []api.Region) ([]api.Field, api.Errno) {
	jobs := w.jobs(tiles)
	results := w.find(jobs)
	for _, i := range w.stale(jobs) {
		results[i] = w.do(jobs[i])
		if results[i].e != api.OK {
			return nil, results[i].e
		}
	}
	w.keep(jobs, results)
	var fields []api.Field
	for _, r := range results {
		fields = append(fields, r.field)
	}
	return fields, api.OK
}

// find gives the results of the jobs whose fields are kept.
func (w *World) find(jobs []job) []result {
	results := make([]result, len(jobs))
	for i, j := range jobs {
		results[i].field = w.kept[j.key].field
	}
	return results
}

func (w *World) do(j job) result {
	f, e := Whole(w.graph, j.edits, j.region)
	return result{f, e}
}

// keep keeps the fields of results without errors, which have been asked for in this order, and returns how many were not kept before.
func (w *World) keep(jobs []job, results []result) int {
	made := 0
	for i, j := range jobs {
		if results[i].e != api.OK {
			continue
		}
		if _, isKept := w.kept[j.key]; !isKept {
			made++
		}
		w.asks++
		w.kept[j.key] = asked{results[i].field, w.asks}
	}
	w.made += made
	return made
}

// Build is described in doc/08-tile.md, P180.
func (w *World) Build(workers int) (int, api.Errno) {
	if !field.Within(workers, 1, maxWorkers) {
		return 0, api.ErrRange
	}
	jobs := w.jobs(w.tiles)
	results := w.find(jobs)
	share(workers, w.stale(jobs), func(i int) { results[i] = w.do(jobs[i]) })
	made := w.keep(jobs, results)
	for _, r := range results {
		if r.e != api.OK {
			return made, r.e
		}
	}
	return made, api.OK
}

// share lets workers do something with each number, at the same time. What they do must not meet.
func share(workers int, numbers []int, do func(i int)) {
	next := make(chan int)
	var all sync.WaitGroup
	all.Add(workers)
	for range workers {
		go func() {
			defer all.Done()
			for i := range next {
				do(i)
			}
		}()
	}
	for _, i := range numbers {
		next <- i
	}
	close(next)
	all.Wait()
}

// Forget is described in doc/08-tile.md, P180.
func (w *World) Forget(most int) (int, api.Errno) {
	if most < 0 {
		return 0, api.ErrRange
	}
	keys := slices.SortedFunc(maps.Keys(w.kept), func(a, b string) int {
		return cmp.Compare(w.kept[a].at, w.kept[b].at)
	})
	drop := max(0, len(keys)-most)
	for _, key := range keys[:drop] {
		delete(w.kept, key)
	}
	return drop, api.OK
}
