/-
  Chapter 16: a line, as a value and in memory: the landed one's cells, and those of the document's own.
-/
import Derived.Test.YtfioaofmmplgcaaSealSpec
import Derived.Test.YtfioaofmmplgcaaSealCell
import Derived.Test.YtfioaofmmplgcaaPutN
namespace Go.Proofs.Ytfioaofmmplgcaa.Line
open Go.RowKit Go.Proofs.Ytfioaofmmplgcaa.Sha Go.Proofs.Ytfioaofmmplgcaa.Seal

/-- a line -/
structure LV where
  party : Int
  which : Int
  seq : Int
  busy : Bool
  body : List Int
def zeroN : NV := ⟨0, 0, 0, 0, []⟩
def noteL (v : LV) : NV := ⟨v.party, v.which, 0, v.seq, v.body⟩
def newL (p h s : Int) : LV := ⟨p, h, if 0 ≤ s ∧ s ≤ 4294967295 then s else 0, false, []⟩
def sendE (v : LV) : Int := if v.busy = true then 6 else if v.seq = 4294967295 then 1 else 0
def sendL (v : LV) (b : List Int) : LV := if sendE v = 0 then ⟨v.party, v.which, v.seq + 1, true, b⟩ else v
def sendN (v : LV) (b : List Int) : NV := if sendE v = 0 then ⟨v.party, v.which, 0, v.seq + 1, b⟩ else zeroN
def againN (v : LV) : NV := if v.busy = true then noteL v else zeroN
def gotE (v : LV) (n : NV) : Int := if n.party = v.party ∧ n.which = v.which ∧ n.way = 1 then (if v.busy = true ∧ n.seq = v.seq then 0 else 5) else 14
def gotL (v : LV) (n : NV) : LV := if gotE v n = 0 then ⟨v.party, v.which, v.seq, false, []⟩ else v
def gotB (v : LV) (n : NV) : List Int := if gotE v n = 0 then n.body else []
def noteC (n : NV) (s : Value) : Array Value := #[.int .i64 n.party, .int .i64 n.which, .int .i64 n.way, .int .i64 n.seq, s]
/-- the cells of a landed line, and of the document's -/
def cellsC (v : LV) (s : Value) : Array Value := #[.int .i64 v.party, .int .i64 v.which, .int .i64 0, .int .i64 v.seq, s, .bool v.busy]
def cellsR (v : LV) (s : Value) : Array Value := #[.int .i64 v.party, .int .i64 v.which, .int .i64 v.seq, .bool v.busy, s]
/-- a line in block x, that lies at N or above; its body, where it waits, in a row of its own -/
structure Ln (C : LV → Value → Array Value) (T : TypeId) (N : Nat) (w : World) (x : Nat) (v : LV) : Prop where
  seq : 0 ≤ v.seq ∧ v.seq ≤ 4294967295
  len : v.body.length < 2147483648
  least : N ≤ x
  mem : ∃ A l c, Blk w x T (C v (.slice A l c)) ∧ (v.busy = true → w.ownsRow N 5 1 (.slice A l c) l (ints .u8 v.body) ∧ Bytes v.body)
section
variable {C : LV → Value → Array Value} {T T' : TypeId} {N x y : Nat} {w w' : World} {v : LV} {cs : Array Value}
theorem own_down {base B n : Nat} {e : TypeId} {u : Value} {xs : List Value} (h : w.ownsRow base e 1 u n xs) (hb : B ≤ base) : w.ownsRow B e 1 u n xs :=
  ⟨h.1, h.2.imp id (fun ⟨g, cap, cur, h1, h2, r⟩ => ⟨g, cap, cur, h1, Nat.le_trans hb h2, r⟩)⟩
theorem own_row {A : Option Addr} {l c : Nat} {xs : List Int} (h : w.ownsRow N 5 1 (.slice A l c) l (ints .u8 xs)) (hb : Bytes xs) : l ≤ c ∧ c ≤ 9223372036854775807 ∧ Rd w A l xs := by
  obtain ⟨A', c', e, h1, h2, h3⟩ := own_rd h hb
  injection e with e1 e2 e3
  subst e1 e3
  exact ⟨h1, h2, h3⟩
theorem newA_off {A : Option Addr} {l : Nat} {xs : List Int} {F : List Nat} (h : NewA w A) (r : Rd w' A l xs) (hF : ∀ k ∈ F, k < w.heap.size) : Off A l F := by
  rcases r.2.2 with h0 | ⟨b, o, e, -⟩
  · exact .inl h0
  · exact .inr ⟨b, o, e, fun hm => by have := h b o e; have := hF b hm; omega⟩
theorem _root_.Go.Proofs.Ytfioaofmmplgcaa.Sha.Off.mono_ {A : Option Addr} {l : Nat} {F G : List Nat} (h : Off A l F) (hs : ∀ k ∈ G, k ∈ F) : Off A l G :=
  h.imp id (fun ⟨g, o, e, hg⟩ => ⟨g, o, e, fun hm => hg (hs g hm)⟩)
theorem Ln.lt (h : Ln C T N w x v) : x < w.heap.size := by
  obtain ⟨-, -, -, A, l, c, k, -⟩ := h
  exact k.lt
/-- another object's turn -/
theorem Ln.keep (h : Ln C T N w x v) (b : Bar [y] w w') (hy : Blk w y T' cs) (hx : x ≠ y) (h8 : 5 ≠ T') : Ln C T N w' x v := by
  obtain ⟨h1, h2, h3, A, l, c, k, o⟩ := h
  exact ⟨h1, h2, h3, A, l, c, k.bar b (by simpa using hx), fun hb => ⟨own_keep (o hb).1 b (fun g hg => by
    have := own_far (o hb).1 hy h8
    rw [List.mem_singleton]; rintro rfl; exact this (by simpa using hg)), (o hb).2⟩⟩
theorem Ln.below (h : Ln C T N w x v) (b : Below w.heap.size w w') : Ln C T N w' x v := by
  obtain ⟨h1, h2, h3, A, l, c, k, o⟩ := h
  exact ⟨h1, h2, h3, A, l, c, k.below b k.lt, fun hb => ⟨own_keep (o hb).1 (barOf b []) (by simp), (o hb).2⟩⟩
end
/-- a note and another value are answered; the line is then v -/
def NoteP (C : LV → Value → Array Value) (T : TypeId) (N x : Nat) (n : NV) (u : Value) (v : LV) (w : World) (e : Ending) (w' : World) : Prop :=
  ∃ A l c, e = .returned (.tuple #[.agg #[.int .i64 n.party, .int .i64 n.which, .int .i64 n.way, .int .i64 n.seq, .slice A l c], u]) ∧ l ≤ c ∧ c ≤ 9223372036854775807 ∧ Rd w' A l n.body ∧ NewA w A ∧ Ln C T N w' x v ∧ Bar [x] w w'
/-- bytes and another value are answered -/
def BodyP (C : LV → Value → Array Value) (T : TypeId) (N x : Nat) (b : List Int) (u : Value) (v : LV) (w : World) (e : Ending) (w' : World) : Prop :=
  ∃ A l c, e = .returned (.tuple #[.slice A l c, u]) ∧ l ≤ c ∧ c ≤ 9223372036854775807 ∧ Rd w' A l b ∧ NewA w A ∧ Ln C T N w' x v ∧ Bar [x] w w'
/-- a line's own note is answered -/
def OwnP (C : LV → Value → Array Value) (T : TypeId) (N x : Nat) (v : LV) (w : World) (e : Ending) (w' : World) : Prop :=
  ∃ A l c, e = .returned (.agg #[.int .i64 v.party, .int .i64 v.which, .int .i64 0, .int .i64 v.seq, .slice A l c]) ∧ l ≤ c ∧ c ≤ 9223372036854775807 ∧ Rd w' A l v.body ∧ NewA w A ∧ Ln C T N w' x v ∧ Below w.heap.size w w'
end Go.Proofs.Ytfioaofmmplgcaa.Line
