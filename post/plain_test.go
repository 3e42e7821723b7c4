package post_test

import (
	"bytes"
	"fmt"
	"math"
	"math/rand"
	"testing"

	"counterfoil/api"
	"counterfoil/post"
)

// longest is how many bytes a parcel has at most.
const longest = 60100

// sent is a parcel that was once put, or copied.
type sent struct {
	to   int
	text string
	gone bool
}

// plain is a post in the chapter's words: it keeps all that ever was under way, and
// what is gone of it, and tells all else from these.
type plain struct {
	most int
	all  []sent
}

// under are the places in all of those that are under way.
func (p *plain) under() []int {
	var l []int
	for k, s := range p.all {
		if !s.gone {
			l = append(l, k)
		}
	}
	return l
}

// find is the i-th one that is under way; nil, if there is none.
func (p *plain) find(i int) *sent {
	for n, k := range p.under() {
		if n == i {
			return &p.all[k]
		}
	}
	return nil
}

func (p *plain) put(to int, text string) api.Errno {
	switch {
	case len(p.under()) >= p.most:
		return api.ErrFull
	case len(text) > longest:
		return api.ErrLong
	}
	p.all = append(p.all, sent{to: to, text: text})
	return api.OK
}

func (p *plain) at(i int) (post.Parcel, bool) {
	s := p.find(i)
	if s == nil {
		return post.Parcel{}, false
	}
	return post.Parcel{To: s.to, Bytes: []byte(s.text)}, true
}

func (p *plain) take(i int) (post.Parcel, bool) {
	x, ok := p.at(i)
	return x, p.drop(i) && ok
}

func (p *plain) drop(i int) bool {
	s := p.find(i)
	if s == nil {
		return false
	}
	s.gone = true
	return true
}

func (p *plain) copy(i int) api.Errno {
	s := p.find(i)
	switch {
	case s == nil:
		return api.ErrNone
	case len(p.under()) >= p.most:
		return api.ErrFull
	}
	p.all = append(p.all, *s)
	return api.OK
}

// both is a post and a plain one, of which the same is asked.
type both struct {
	t *testing.T
	q *post.Post
	p *plain
}

func open(t *testing.T, most int) both {
	t.Helper()
	q, e := post.New(most)
	if e != api.OK || q == nil {
		t.Fatalf("P17.1: New(%d): %d", most, e)
	}
	x := both{t, q, &plain{most: most}}
	x.holds()
	return x
}

// filled is a post of which n are under way, all of them other ones.
func filled(t *testing.T, most, n int) both {
	t.Helper()
	x := open(t, most)
	for k := range n {
		x.put(k-1, some(k%7, k))
	}
	return x
}

// holds holds all that may be asked of the post and changes nothing.
func (x both) holds() {
	x.t.Helper()
	under := x.p.under()
	n := len(under)
	if x.q.Len() != n {
		x.t.Fatalf("P17.1: Len %d, not %d", x.q.Len(), n)
	}
	for i, k := range under {
		want := x.p.all[k]
		if got, ok := x.q.At(i); !ok || got.To != want.to || string(got.Bytes) != want.text {
			x.t.Fatalf("P17.1: At(%d) of %d: %s, %t, not to %d, %d bytes", i, n, show(got), ok, want.to, len(want.text))
		}
	}
	for _, i := range beyond(n) {
		x.at(i)
	}
	if x.q.Len() != n {
		x.t.Fatalf("P17.1: At changes how many are under way: %d, not %d", x.q.Len(), n)
	}
}

// at asks for the i-th; what is answered must be the plain one's answer.
func (x both) at(i int) {
	x.t.Helper()
	want, has := x.p.at(i)
	if got, ok := x.q.At(i); ok != has || !same(got, want) {
		x.t.Fatalf("P17.1: At(%d) of %d: %s, %t, not %s, %t", i, x.q.Len(), show(got), ok, show(want), has)
	}
}

// put puts b; what is answered must be the plain one's answer.
func (x both) put(to int, b []byte) api.Errno {
	x.t.Helper()
	want := x.p.put(to, string(b))
	if e := x.q.Put(to, b); e != want {
		x.t.Fatalf("P17.1: Put(%d) of %d bytes: %d, not %d", to, len(b), e, want)
	}
	x.holds()
	return want
}

// take takes the i-th; what is answered must be the plain one's answer.
func (x both) take(i int) (post.Parcel, bool) {
	x.t.Helper()
	want, has := x.p.take(i)
	got, ok := x.q.Take(i)
	if ok != has || !same(got, want) {
		x.t.Fatalf("P17.1: Take(%d): %s, %t, not %s, %t", i, show(got), ok, show(want), has)
	}
	x.holds()
	return got, ok
}

// drop drops the i-th; what is answered must be the plain one's answer.
func (x both) drop(i int) bool {
	x.t.Helper()
	want := x.p.drop(i)
	if ok := x.q.Drop(i); ok != want {
		x.t.Fatalf("P17.1: Drop(%d): %t, not %t", i, ok, want)
	}
	x.holds()
	return want
}

// copy copies the i-th; what is answered must be the plain one's answer.
func (x both) copy(i int) api.Errno {
	x.t.Helper()
	want := x.p.copy(i)
	if e := x.q.Copy(i); e != want {
		x.t.Fatalf("P17.1: Copy(%d): %d, not %d", i, e, want)
	}
	x.holds()
	return want
}

// same tells if two parcels are the same; nil is no bytes.
func same(a, b post.Parcel) bool {
	return a.To == b.To && bytes.Equal(a.Bytes, b.Bytes)
}

func show(x post.Parcel) string {
	return fmt.Sprintf("{to %d, %d bytes %x}", x.To, len(x.Bytes), x.Bytes[:min(8, len(x.Bytes))])
}

// some answers n bytes of which hardly one is like the next: other ones of each
// which.
func some(n, which int) []byte {
	b := make([]byte, n)
	rand.New(rand.NewSource(int64(n)*1000 + int64(which))).Read(b)
	return b
}

// spoil turns b, and its spare room.
func spoil(b []byte) {
	b = b[:cap(b)]
	for i := range b {
		b[i] ^= 0xff
	}
}

// roomy is b with other bytes behind its length: all of it is answered, too.
func roomy(b []byte) (in, all []byte) {
	all = append(bytes.Clone(b), some(100, 10)...)
	return all[:len(b)], all
}

// beyond are numbers of no parcel, where n are under way.
func beyond(n int) []int {
	return []int{-1, -2, -n, -n - 1, n, n + 1, 1 << 31, 1 << 32, 1<<32 + 1, -1 << 32, math.MaxInt, math.MaxInt - 1, math.MinInt, math.MinInt + 1}
}

// ids are numbers of whom a parcel may go to: all are.
func ids() []int {
	return []int{0, 1, 2, 17, 18, 255, 256, 65536, 1 << 32, -1, -2, math.MaxInt, math.MinInt}
}

// sizes are sizes of parcels that go in.
func sizes() []int {
	return []int{0, 1, 2, 31, 32, 33, 44, 100, 4096, api.MaxRecord, api.MaxRecord + 1, longest - 1, longest}
}
