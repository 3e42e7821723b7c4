package purse

import (
	"slices"
	"testing"

	"counterfoil/api"
)

// roomy answers the same as l, with spare room of other numbers behind each row
// and behind the list.
func roomy(l [][]int) [][]int {
	var rows [][]int
	for _, row := range l {
		rows = append(rows, append(slices.Clone(row), 91, 92, 93, 94, 95)[:len(row)])
	}
	return append(rows, []int{81, 82, 83, 84}, nil, []int{-1})[:len(l)]
}

// whole is all of l, its spare room too.
func whole(l [][]int) [][]int {
	var rows [][]int
	for _, row := range l[:cap(l)] {
		rows = append(rows, slices.Clone(row[:cap(row)]))
	}
	return rows
}

// spoil turns all of l, its spare room too.
func spoil(l [][]int) {
	l = l[:cap(l)]
	for i, row := range l {
		row = row[:cap(row)]
		for k := range row {
			row[k] = ^row[k]
		}
		l[i] = nil
	}
}

// calls are some that are done, and some that answer errors.
func calls() []call {
	return []call{
		{give, 0, 0, 0, 5}, {give, 1, 0, 0, most}, {give, 9, 0, 0, 1}, {take, 0, 0, 0, 2}, {take, 1, 0, 0, most},
		{move, 0, 1, 0, 1}, {move, 1, 0, 0, 1}, {move, 1, 1, 0, 1}, {move, 0, 1, 9, 1}, {move, 0, 1, 0, most},
	}
}

// TestHandedInStays looks at what was handed in, and at what lies behind it,
// whatever the answer is, and whatever is done to the Purse.
func TestHandedInStays(t *testing.T) {
	for _, start := range append(starts(), grid(1, 1), grid(17, 1), grid(2, 5), grid(2, 0), [][]int{{1, 2}, {3}}, [][]int{{1}, {2, 3}}, [][]int{{most}, {1}}, [][]int{{-1}, {1}}) {
		l := roomy(start)
		was := whole(l)
		p, _ := New(l)
		if p != nil {
			for _, c := range calls() {
				c.do(p)
				c.do(p.Copy())
			}
		}
		if !slices.EqualFunc(whole(l), was, slices.Equal) {
			t.Errorf("P9.3: %v was changed, or what lies behind it: %v", was, whole(l))
		}
	}
}

// TestHandedInIsNotKept turns what was handed in, behind New and behind calls.
func TestHandedInIsNotKept(t *testing.T) {
	for _, start := range starts() {
		want, _ := begun(start)
		l := roomy(start)
		p := made(t, l...)
		q := made(t, l...)
		for _, c := range calls() {
			c.do(q)
		}
		kept := plain(all(q))
		copied := p.Copy()
		spoil(l)
		holds(t, p, want, "P9.3: what is turned")
		holds(t, q, kept, "P9.3: what is turned behind calls")
		holds(t, copied, want, "P9.3: what is turned behind a Copy")
		for _, c := range calls() {
			var we api.Errno
			want, we = want.after(c)
			if e := c.do(p); e != we {
				t.Errorf("P9.3: %s%v of what is turned: %d, not %d", c.name(), c, e, we)
			}
			holds(t, p, want, "P9.3: calls behind what is turned")
		}
	}
}

// TestBehindTheLength: what lies behind a row or behind the list counts nowhere.
func TestBehindTheLength(t *testing.T) {
	for _, start := range starts() {
		want, _ := begun(start)
		holds(t, made(t, roomy(start)...), want, "P0.4: spare room")
		begins(t, roomy(start)[:1], "P0.4: spare room behind one party")
		begins(t, roomy(start)[:0], "P0.4: spare room behind no party")
		l := roomy(start)
		l[1] = l[1][:0]
		begins(t, l, "P0.4: spare room behind no asset")
	}
	// A row that would be as long as the others, and a sum that would not be one.
	room := []int{1, most, most, most}
	begins(t, [][]int{room[:1:4], {0}}, "P0.4: a greater one behind")
	begins(t, [][]int{{1, 2}, room[:1:4]}, "P0.4: a longer one behind")
}

// TestRowsOfOneMemory hands in one row for all parties, and rows that share what
// they have: what one party is given, the others are not.
func TestRowsOfOneMemory(t *testing.T) {
	row := []int{7, 8, 9}
	for _, l := range [][][]int{slices.Repeat([][]int{row}, 16), {row[:2], row[1:]}, {row[1:], row[:2]}, {row[:1], row[:1:1], row[2:]}} {
		want, _ := begun(l)
		p := made(t, l...)
		holds(t, p, want, "P9.3: rows of one memory")
		for _, c := range calls() {
			want, _ = want.after(c)
			c.do(p)
			holds(t, p, want, "P9.3: rows of one memory, behind calls")
		}
	}
	if !slices.Equal(row, []int{7, 8, 9}) {
		t.Errorf("P9.3: %v was changed", row)
	}
}

// TestTwoOfOneStart: two Purses of the same beginning have nothing in common.
func TestTwoOfOneStart(t *testing.T) {
	for _, start := range starts() {
		want, _ := begun(start)
		p, q := made(t, start...), made(t, start...)
		for _, c := range calls() {
			c.do(p)
			holds(t, q, want, "P0.5: another one of the same beginning")
		}
	}
}

// TestCopyIsItsOwn makes calls of the one: the other is as it was, both ways, and
// so is a Copy of a Copy, of each party and each asset.
func TestCopyIsItsOwn(t *testing.T) {
	for _, start := range starts() {
		want, _ := begun(start)
		for turned := range 3 {
			p := made(t, start...)
			l := []*Purse{p, p.Copy(), nil}
			l[2] = l[1].Copy()
			if l[0] == l[1] || l[1] == l[2] || l[0] == l[2] {
				t.Fatal("P9.2: Copy answers the same one")
			}
			now := want
			for party := range want {
				for asset := range want[0] {
					for _, c := range []call{{give, party, 0, asset, 3}, {move, party, (party + 1) % len(want), asset, 2}, {take, party, 0, asset, 1}} {
						now, _ = now.after(c)
						c.do(l[turned])
					}
				}
			}
			for i, p := range l {
				if i == turned {
					holds(t, p, now, "P9.2: the one that was changed")
				} else {
					holds(t, p, want, "P9.2: the one that was left")
				}
			}
		}
	}
}

// TestCopyBehindCalls: a Copy is of what there is now, with the room that is left
// now.
func TestCopyBehindCalls(t *testing.T) {
	p := made(t, []int{10, 0}, []int{0, 5}, []int{1, 1})
	p.Give(1, 0, most-11)
	p.Move(1, 2, 0, 100)
	p.Take(1, 1, 5)
	q := p.Copy()
	holds(t, q, plain{{10, 0}, {most - 111, 0}, {101, 1}}, "P9.2: a Copy behind calls")
	if e := q.Give(0, 0, 1); e != api.ErrRange {
		t.Errorf("P9.2: Give of a full Copy: %d", e)
	}
	if e, f := q.Take(0, 0, 1), p.Give(0, 0, 1); e != api.OK || f != api.ErrRange {
		t.Errorf("P9.2: Take of the Copy: %d, and Give to the other one: %d", e, f)
	}
	if e := q.Give(2, 0, 1); e != api.OK {
		t.Errorf("P9.2: Give of a Copy with room: %d", e)
	}
	holds(t, p, plain{{10, 0}, {most - 111, 0}, {101, 1}}, "P9.2: what was copied")
	holds(t, q, plain{{9, 0}, {most - 111, 0}, {102, 1}}, "P9.2: the Copy")
}
