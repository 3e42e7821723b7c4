/-
  The document's desk: one more is said: the two rows grow, in whatever order, then both are stored.
-/
import Derived.Test.YthhjmbbfibgjpaaTradeRMay
import Derived.Test.YthhjmbbfibgjpaaIntRows
namespace Go.Proofs.Ythhjmbbfibgjpaa.Trade
open Go.RowKit Go.Proofs.Ythhjmbbfibgjpaa.Sha

theorem rows_apart {w : World} {N1 N2 s1 s2 n1 n2 : Nat} {e1 e2 : TypeId} {u v : Value} {xs ys : List Value} (hu : w.ownsRow N1 e1 s1 u n1 xs) (hv : w.ownsRow N2 e2 s2 v n2 ys) (he : e1 ≠ e2) : ∀ g ∈ u.ownBlock.toList, g ∉ v.ownBlock.toList := by
  intro g hg hm
  rcases hu.2 with ⟨rfl, _⟩ | ⟨g1, c1, r1, rfl, -, b1, -⟩
  · simp [Value.ownBlock] at hg
  · rcases hv.2 with ⟨rfl, _⟩ | ⟨g2, c2, r2, rfl, -, b2, -⟩
    · simp [Value.ownBlock] at hm
    · simp [Value.ownBlock] at hg hm
      subst hg
      subst hm
      rw [b1] at b2
      injection b2 with b2
      injection b2 with _ b2
      exact he b2
/-- between the desk's reading and its stores: its cells hold u and v yet, the rows are uu and vv now -/
structure QS (N : Nat) (w W : World) (x M : Nat) (p c a : Int) (t : TV) (u v uu vv : Value) (k : List Int) (l : List TV) : Prop where
  blk : Blk W x 41 #[.int .i64 p, .int .i64 c, .int .i64 a, u, v]
  who : W.ownsRow N 3 1 uu k.length (ints .i64 k)
  row : W.ownsRow N 33 7 vv l.length (l.flatMap tvC)
  box : Blk W M 33 (tvC t).toArray
  far : M ∉ vv.ownBlock.toList
  bar : Bar (x :: (u.ownBlock.toList ++ v.ownBlock.toList)) w W
  nu : ∀ g ∈ uu.ownBlock.toList, g ∈ u.ownBlock.toList ∨ w.heap.size ≤ g
  nv : ∀ g ∈ vv.ownBlock.toList, g ∈ v.ownBlock.toList ∨ w.heap.size ≤ g
  low : N ≤ x
section
variable {N : Nat} {w W W' : World} {x M : Nat} {p c a : Int} {t : TV} {u v uu vv uu' vv' : Value} {k : List Int} {l : List TV}
theorem QS.below (h : QS N w W x M p c a t u v uu vv k l) (b : Below W.heap.size W W') : QS N w W' x M p c a t u v uu vv k l :=
  ⟨h.blk.below b h.blk.lt, own_keep h.who (barOf b []) (by simp), own_keep h.row (barOf b []) (by simp), h.box.below b h.box.lt, h.far, h.bar.trans (barOf b []) (by simp), h.nu, h.nv, h.low⟩
theorem QS.appU {q : Int} (h : QS N w W x M p c a t u v uu vv k l) (hg : W.grownBy W' uu.ownBlock) (ho : W'.ownsRow N 3 1 uu' (k.length + 1) (ints .i64 k ++ ints .i64 [q])) (hat : uu'.ownBlock = uu.ownBlock ∨ uu'.ownBlock = some W.heap.size) : QS N w W' x M p c a t u v uu' vv (k ++ [q]) l := by
  have b := Bar.grownRow hg
  have f1 : x ∉ uu.ownBlock.toList := fun hm => own_far h.who h.blk (by decide) (Option.mem_toList.1 hm)
  have f2 : M ∉ uu.ownBlock.toList := fun hm => own_far h.who h.box (by decide) (Option.mem_toList.1 hm)
  have f3 := rows_apart h.row h.who (by decide)
  refine ⟨h.blk.bar b f1, ?_, own_keep h.row b (fun g hg hm => f3 g (by simpa using hg) hm), h.box.bar b f2, h.far, h.bar.trans b (fun g hg => ?_), fun g hg => ?_, h.nv, h.low⟩
  · rw [List.length_append, List.length_singleton, ints_append]; exact ho
  · rcases h.nu g hg with h1 | h1
    · exact .inl (by simp only [List.mem_cons, List.mem_append]; exact .inr (.inl h1))
    · exact .inr h1
  · rcases hat with e | e
    · rw [e] at hg; exact h.nu g hg
    · rw [e] at hg; simp at hg; have := h.bar.size; exact .inr (by omega)
theorem QS.appV {t' : TV} (h : QS N w W x M p c a t u v uu vv k l) (hg : W.grownBy W' vv.ownBlock) (ho : W'.ownsRow N 33 7 vv' (l.length + 1) (l.flatMap tvC ++ tvC t')) (hat : vv'.ownBlock = vv.ownBlock ∨ vv'.ownBlock = some W.heap.size) : QS N w W' x M p c a t u v uu vv' k (l ++ [t']) := by
  have b := Bar.grownRow hg
  have f1 : x ∉ vv.ownBlock.toList := fun hm => own_far h.row h.blk (by decide) (Option.mem_toList.1 hm)
  have f3 := rows_apart h.who h.row (by decide)
  refine ⟨h.blk.bar b f1, own_keep h.who b (fun g hg hm => f3 g (by simpa using hg) hm), ?_, h.box.bar b h.far, fun hm => ?_, h.bar.trans b (fun g hg => ?_), h.nu, fun g hg => ?_, h.low⟩
  · rw [List.length_append, List.length_singleton, List.flatMap_append, List.flatMap_singleton]; exact ho
  · rcases hat with e | e
    · rw [e] at hm; exact h.far hm
    · rw [e] at hm; simp at hm; have := h.box.lt; omega
  · rcases h.nv g hg with h1 | h1
    · exact .inl (by simp only [List.mem_cons, List.mem_append]; exact .inr (.inr h1))
    · exact .inr h1
  · rcases hat with e | e
    · rw [e] at hg; exact h.nv g hg
    · rw [e] at hg; simp at hg; have := h.bar.size; exact .inr (by omega)
theorem QS.fin {C : List CV} (h : QS N w W x M p c a t u v uu vv k l) (hk : C.map CV.who = k) (hl : tr C = l) :
    Rk (x :: (uu.ownBlock.toList ++ vv.ownBlock.toList)) N ((W.setCell ⟨x, 3, none⟩ uu).setCell ⟨x, 4, none⟩ vv) x p c a C ∧ Fp (x :: (u.ownBlock.toList ++ v.ownBlock.toList)) (x :: (uu.ownBlock.toList ++ vv.ownBlock.toList)) w ((W.setCell ⟨x, 3, none⟩ uu).setCell ⟨x, 4, none⟩ vv) := by
  have b : Bar [x] W ((W.setCell ⟨x, 3, none⟩ uu).setCell ⟨x, 4, none⟩ vv) := ((Bar.refl _ W).setCell (.inl (by simp)) _).setCell (.inl (by simp)) _
  have f1 : x ∉ uu.ownBlock.toList := fun hm => own_far h.who h.blk (by decide) (Option.mem_toList.1 hm)
  have f2 : x ∉ vv.ownBlock.toList := fun hm => own_far h.row h.blk (by decide) (Option.mem_toList.1 hm)
  have e1 : C.length = k.length := by rw [← hk, List.length_map]
  have e2 : C.length = l.length := by rw [← hl, tr_len]
  refine ⟨⟨uu, vv, ⟨h.low, by simpa using (h.blk.set_ 3 uu).set_ 4 vv, ?_, ?_⟩, rfl⟩, h.bar.trans b (by simp), fun g hg => ?_⟩
  · rw [e1, hk]; exact own_keep h.who b (fun g hg hm => by rw [List.mem_singleton] at hm; subst hm; exact f1 (by simpa using hg))
  · rw [e2, hl]; exact own_keep h.row b (fun g hg hm => by rw [List.mem_singleton] at hm; subst hm; exact f2 (by simpa using hg))
  · simp only [List.mem_cons, List.mem_append] at hg ⊢
    rcases hg with e | hg | hg
    · exact .inl (.inl e)
    · exact (h.nu g hg).imp (fun h => .inr (.inl h)) id
    · exact (h.nv g hg).imp (fun h => .inr (.inr h)) id
end
end Go.Proofs.Ythhjmbbfibgjpaa.Trade
