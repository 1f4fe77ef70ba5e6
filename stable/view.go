package stable

import (
	"cmp"
	"slices"

	"cairn/api"
	"cairn/disk"
)

// entry is a record, and the sectors in which its pieces lie.
type entry struct {
	record []byte
	at     []int
}

// view is what lies on a disk, as it was behind so many writes.
type view struct {
	writes  int
	kept    map[api.Key]entry
	outdone []int // where the first pieces of whole records lie that later ones have replaced: as long as they do, a Drop must not forget them
	free    []int // the other sectors that no record needs
	taken   int
	next    int // above the version of every piece
}

// look finds the records of a disk: of those of one key that are there with all their pieces, the latest.
func look(d *disk.Disk, most Most) view {
	image := d.Image()
	v := view{writes: d.Counts().Writes, kept: map[api.Key]entry{}}
	found := map[piece]int{}
	for n := range d.Sectors() {
		if p, ok := pieceOf(image[n*api.Sector:(n+1)*api.Sector], most); ok {
			found[p] = n
			v.next = max(v.next, p.version+1)
		}
	}
	wholes := wholesOf(found)
	latest := latestOf(wholes)
	for n, at := range wholes {
		if latest[n.key] == n {
			v.kept[n.key] = entry{joined(image, at, n.length), at}
			v.taken += Width(n.key.Kind, most)
		} else {
			v.outdone = append(v.outdone, at[0])
		}
	}
	slices.Sort(v.outdone)
	v.free = v.others(d.Sectors())
	return v
}

// wholesOf tells of which records all pieces are there, and where these lie.
func wholesOf(found map[piece]int) map[name][]int {
	wholes := map[name][]int{}
	for p := range found {
		if p.index != 0 {
			continue
		}
		if at := placesOf(found, p.name); len(at) == pieces(p.length) {
			wholes[p.name] = at
		}
	}
	return wholes
}

// placesOf tells where the pieces of a record lie, up to the first that is missing.
func placesOf(found map[piece]int, n name) []int {
	var at []int
	for i := range pieces(n.length) {
		sector, ok := found[piece{n, i}]
		if !ok {
			break
		}
		at = append(at, sector)
	}
	return at
}

// latestOf tells of each key the record that was laid down last.
func latestOf(wholes map[name][]int) map[api.Key]name {
	latest := map[api.Key]name{}
	for n := range wholes {
		was, there := latest[n.key]
		if !there || cmp.Or(cmp.Compare(n.version, was.version), cmp.Compare(n.length, was.length)) > 0 {
			latest[n.key] = n
		}
	}
	return latest
}

// joined is the record whose pieces lie in these sectors of an image.
func joined(image []byte, at []int, length int) []byte {
	record := make([]byte, 0, len(at)*payload)
	for _, n := range at {
		record = append(record, image[n*api.Sector+front:][:payload]...)
	}
	return record[:length]
}

// others are the sectors that neither a record nor the outdone ones take, the first one last.
func (v *view) others(sectors int) []int {
	used := make([]bool, sectors)
	for _, e := range v.kept {
		for _, n := range e.at {
			used[n] = true
		}
	}
	for _, n := range v.outdone {
		used[n] = true
	}
	var free []int
	for n := sectors - 1; n >= 0; n-- {
		if !used[n] {
			free = append(free, n)
		}
	}
	return free
}

// spare is how many sectors no record needs.
func (v *view) spare() int {
	return len(v.free) + len(v.outdone)
}

// take hands out sectors that no record needs. The outdone ones are among them, so that none is left behind a Put but the one that it replaces.
func (v *view) take(count int) []int {
	v.release(v.outdone)
	v.outdone = nil
	left := len(v.free) - count
	at := slices.Clone(v.free[left:])
	v.free = v.free[:left]
	return at
}

// release: what lies in these sectors is not needed, and may be forgotten.
func (v *view) release(sectors []int) {
	v.free = append(v.free, sectors...)
}

// keep has a record in the place of the one that is there.
func (v *view) keep(k api.Key, now entry, width int) {
	was, there := v.kept[k]
	if there {
		v.outdone = was.at[:1]
		v.release(was.at[1:])
	} else {
		v.taken += width
	}
	v.kept[k] = now
	v.next++
}

// forget has no record under a key any more, nor an outdone one.
func (v *view) forget(k api.Key, width int) {
	v.release(v.outdone)
	v.release(v.kept[k].at)
	v.outdone = nil
	v.taken -= width
	delete(v.kept, k)
}
