package post_test

import (
	"fmt"
	"math/rand"
	"testing"

	"counterfoil/api"
	"counterfoil/post"
)

// step is one call, and what it is handed.
type step struct {
	call string
	i    int
	to   int
	b    []byte
}

// pick answers the next step of a row, where n of most are under way: mostly one that
// is there, and else what is near to it. Above puts of eight calls make more go in.
func pick(r *rand.Rand, n, most, puts int) step {
	s := step{to: r.Intn(20) - 1, i: r.Intn(n + 1)}
	switch r.Intn(12) {
	case 0:
		s.i = beyond(n)[r.Intn(len(beyond(n)))]
	case 1:
		s.i = []int{0, n - 1, n, most - 1, most}[r.Intn(5)]
	}
	s.b = some(r.Intn(30), r.Intn(1000))
	switch r.Intn(100) {
	case 0:
		s.b = some(longest+1-r.Intn(2)*r.Intn(300), r.Intn(9))
	case 1, 2, 3, 4, 5, 6, 7, 8, 9:
		s.b = some(r.Intn(3), 1) // such as were put ahead of it
	}
	s.call = []string{"take", "take", "drop"}[r.Intn(3)]
	if r.Intn(8) < puts {
		s.call = []string{"put", "put", "copy"}[r.Intn(3)]
	}
	return s
}

// name is what a parcel is, as a text.
func name(x post.Parcel) string {
	return fmt.Sprintf("%d %x", x.To, x.Bytes)
}

// TestManyCalls asks long rows of a post and of a plain one. Each parcel that is taken
// was put or copied, and not taken ahead of that.
func TestManyCalls(t *testing.T) {
	for seed := range 40 {
		r := rand.New(rand.NewSource(int64(seed)))
		most := []int{1, 2, 3, 7, 20, 60, 199, 200}[seed%8]
		x := open(t, most)
		under, highest := map[string]int{}, 0
		for k := range 1200 {
			s := pick(r, x.q.Len(), most, []int{7, 3, 6, 2}[k/100%4])
			seen, _ := x.p.at(s.i)
			switch s.call {
			case "put":
				if x.put(s.to, s.b) == api.OK {
					under[name(post.Parcel{To: s.to, Bytes: s.b})]++
				}
			case "copy":
				if x.copy(s.i) == api.OK {
					under[name(seen)]++
				}
			case "take":
				if got, ok := x.take(s.i); ok {
					under[name(got)]--
					if under[name(got)] < 0 {
						t.Fatalf("P17.3: %s came more often than it was put and copied", show(got))
					}
				}
			case "drop":
				if x.drop(s.i) {
					under[name(seen)]--
				}
			}
			highest = max(highest, x.q.Len())
		}
		drain(x, under)
		if highest != most && most <= 60 || highest < 60 && most > 60 {
			t.Errorf("P17.1: at most %d of %d were under way", highest, most)
		}
	}
}

// drain takes all that is under way: what was put and copied came, and no more.
func drain(x both, under map[string]int) {
	x.t.Helper()
	for x.q.Len() > 0 {
		got, _ := x.take(x.q.Len() / 2)
		under[name(got)]--
	}
	for _, times := range under {
		if times != 0 {
			x.t.Fatalf("P17.3: a parcel was put and copied %d times more than it came or was lost", times)
		}
	}
}

// TestFullRows asks rows of posts where most are under way, or nearly so.
func TestFullRows(t *testing.T) {
	for seed := range 12 {
		r := rand.New(rand.NewSource(int64(seed) + 500))
		most := []int{1, 2, 5, 200}[seed%4]
		x := filled(t, most, most)
		for range 300 {
			s := pick(r, x.q.Len(), most, 6)
			switch s.call {
			case "put":
				x.put(s.to, s.b)
			case "copy":
				x.copy(s.i)
			case "take":
				x.take(s.i)
			case "drop":
				x.drop(s.i)
			}
		}
	}
}

// TestSameCalls asks the same rows of two posts: their answers are the same ones.
func TestSameCalls(t *testing.T) {
	for seed := range 20 {
		r := rand.New(rand.NewSource(int64(seed) + 1000))
		most := 1 + seed*seed%200
		a, e := post.New(most)
		b, f := post.New(most)
		if e != api.OK || f != api.OK {
			t.Fatalf("P17.1: New(%d): %d, %d", most, e, f)
		}
		for range 500 {
			s := pick(r, a.Len(), most, 5)
			one, two := answer(a, s), answer(b, s)
			if one != two || a.Len() != b.Len() {
				t.Fatalf("P0.5: %s of %d: %s and %s", s.call, s.i, one, two)
			}
		}
	}
}

// answer asks q what s tells, and answers what it says as a text.
func answer(q *post.Post, s step) string {
	switch s.call {
	case "put":
		return fmt.Sprint(q.Put(s.to, s.b))
	case "copy":
		return fmt.Sprint(q.Copy(s.i))
	case "take":
		x, ok := q.Take(s.i)
		return fmt.Sprint(name(x), ok)
	}
	x, has := q.At(s.i)
	return fmt.Sprint(name(x), has, q.Drop(s.i))
}
