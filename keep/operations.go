package keep

import (
	"slices"
	"strconv"
	"strings"

	"giornata/api"
)

// The operations of a keeper stand on its disk one behind the other, from the first sector on. Each one is the line `OFFICE LENGTH` and a letter of LENGTH bytes with the acts that it added, cut into sectors, of which the first bytes are marks.
//
// All sectors of an operation are written and flushed without a mark. Then the first one is written once more, with the mark as its only change: of this write a crash leaves the mark, or nothing that can be told from the sector before. So an operation is on the disk if and only if its first sector is marked, whatever a crash leaves; and behind the last one there is nothing with a mark, for the other sectors of operations have none.
const (
	marked   = 1
	textRoom = api.SectorSize - 1
)

// operation is acts that a keeper added.
type operation struct {
	office int
	acts   letter
}

// sectors returns the sectors of an operation without the mark.
func (o operation) sectors() []sector {
	body := o.acts.text()
	text := strconv.Itoa(o.office) + " " + strconv.Itoa(len(body)) + "\n" + body
	var out []sector
	for part := range slices.Chunk([]byte(text), textRoom) {
		var s sector
		copy(s[1:], part)
		out = append(out, s)
	}
	return out
}

// readOperation returns the operation that sectors begin with, and how many it has; false if they begin with none.
func readOperation(l []sector) (operation, int, bool) {
	head, _, _ := strings.Cut(string(l[0][1:]), "\n")
	word, more, _ := strings.Cut(head, " ")
	office, _ := strconv.Atoi(word)
	length, _ := strconv.Atoi(more)
	if length < 0 || length > len(l)*textRoom {
		return operation{}, 0, false
	}
	from := len(head) + len("\n")
	count := (from + length + textRoom - 1) / textRoom
	if count > len(l) {
		return operation{}, 0, false
	}
	var text strings.Builder
	for _, s := range l[:count] {
		text.Write(s[1:])
	}
	acts, is := readLetter(text.String()[from : from+length])
	if !is {
		return operation{}, 0, false
	}
	o := operation{office, acts}
	// Sectors with anything that no operation has are not those of what was read.
	written := o.sectors()
	written[0][0] = marked
	return o, count, slices.Equal(written, l[:count])
}

// isLeft reports whether a sector behind the last operation is one that was never used, or what a crash may have left of an operation.
func isLeft(s sector) bool {
	if s == (sector{}) {
		return true
	}
	return s[0] == 0 && !slices.ContainsFunc(s[1:], func(b byte) bool { return !isOfText(b) })
}

// isOfText reports whether a byte may be in a sector behind the mark.
func isOfText(b byte) bool {
	return b == 0 || b == ' ' || b == '\n' || b == '-' || isLetter(b) || isDigit(b)
}
