/-
  Parts laid together: LedgerPoll LedgerDo.
-/
import Derived.Test.YtchcgoabogcabaaGreatPart4

namespace Go.Proofs.YtchcgoabogcabaaGreat.Ledger
open Go.Proofs.YtchcgoabogcabaaGreat.Num Go.Proofs.YtchcgoabogcabaaGreat.Sha Go.Proofs.YtchcgoabogcabaaGreat.Purse Go.Proofs.YtchcgoabogcabaaGreat.Escrow Go.Proofs.YtchcgoabogcabaaGreat.Wire Go.Proofs.YtchcgoabogcabaaGreat.Req

/-- a poll changes nothing -/
theorem applyL_poll {s : LS} {party clock seen : Int} (h : clock ≤ s.clock) : applyL s party clock ⟨seen, []⟩ = (⟨s.clock, (s.e.length : Nat), [], fromL s seen⟩, s) := by
  have hc : clockL s clock = s := by
    unfold clockL
    rw [if_neg (fun q => by have := q.2; omega)]
  unfold applyL
  simp only [List.take_nil, manyL, hc]
theorem fromL_in {s : LS} {k : Nat} (h : k ≤ s.e.length) : fromL s k = (evs s).drop k := by
  unfold fromL
  rw [if_pos ⟨by omega, by omega⟩, Int.toNat_natCast]
theorem fromL_out {s : LS} {seen : Int} (h : ¬ (0 ≤ seen ∧ seen ≤ s.e.length)) : fromL s seen = [] := by
  unfold fromL
  rw [if_neg h]
theorem fromL_may {s : LS} (w : WL s) (seen : Int) : ∀ v ∈ fromL s seen, MayV v ∧ v.ok := by
  intro v hv
  have hm : v ∈ evs s := by
    unfold fromL at hv
    split at hv
    · exact List.mem_of_mem_drop hv
    · simp at hv
  obtain ⟨x, hx, rfl⟩ := List.mem_map.1 hm
  have := w.each x hx
  exact ⟨this.1, this.2.1⟩
theorem evs_ok {s : LS} (w : WL s) : ∀ v ∈ evs s, v.ok := by
  intro v hv
  obtain ⟨x, hx, rfl⟩ := List.mem_map.1 hv
  exact (w.each x hx).2.1
theorem evs_le {s : LS} (w : WL s) : (evs s).length ≤ 400 := by rw [evs_len]; exact w.len
/-- a claim, a refund is never refused for room -/
theorem oneL_room {s : LS} {party : Int} {r : RV} (h : 2 < r.kind) : (oneL s party r).1.code ≠ 12 := by
  unfold oneL
  split
  · rename_i h1
    split
    · intro h2; cases h2
    · rename_i h2
      intro h3
      have h4 : (actL s party r).1.2 = 12 := h3
      unfold actL at h4
      rw [if_neg (by omega), if_neg (by omega)] at h4
      by_cases h5 : r.kind = 3
      · rw [if_pos h5] at h4
        have h4 : (claimB s.b party r.id r.sec s.clock).1 = 12 := h4
        unfold claimB at h4
        repeat' split at h4
        all_goals first | (cases h4; done) | skip
        all_goals first | (simp at h4; done) | skip
        rename_i hg
        unfold giveP at h4 hg
        split at h4 <;> simp at h4
      · rw [if_neg h5] at h4
        have h4 : (refundB s.b party r.id s.clock).1 = 12 := h4
        unfold refundB at h4
        repeat' split at h4
        all_goals first | (cases h4; done) | skip
        all_goals first | (simp at h4; done) | skip
        rename_i hg
        unfold giveP at h4 hg
        split at h4 <;> simp at h4
  · intro h2; cases h2
/-- a lock's reply tells its number; no other reply has one -/
theorem oneL_id {s : LS} (w : WL s) {party : Int} {r : RV} (hr : r.ok) : (r.kind = 2 ∧ (oneL s party r).1.code = 0 → (oneL s party r).1.id = (s.b.l.length : Nat) ∧ (oneL s party r).2.b.l.length = s.b.l.length + 1) ∧ (¬ (r.kind = 2 ∧ (oneL s party r).1.code = 0) → (oneL s party r).1.id = 0 ∧ (oneL s party r).2.b.l.length = s.b.l.length) := by
  unfold oneL
  by_cases h1 : MayR r ∧ isP s.b.p party = true
  · rw [if_pos h1]
    by_cases h2 : (actL s party r).1.2 = 0
    · rw [if_pos h2]
      dsimp only
      by_cases hk : r.kind = 2
      · refine ⟨fun _ => ?_, fun q => absurd ⟨hk, rfl⟩ q⟩
        unfold actL at h2 ⊢
        rw [if_neg (by omega), if_pos hk] at h2 ⊢
        by_cases h3 : roomL s 2 = false
        · rw [if_pos h3] at h2; simp at h2
        · rw [if_neg h3] at h2 ⊢
          obtain ⟨i', j', a', e1, e2, e3, -, -, -, -, -, -, -, -, he⟩ := lock_inv h2
          rw [he]
          exact ⟨rfl, by simp⟩
      · refine ⟨fun q => absurd q.1 hk, fun _ => ?_⟩
        unfold actL at h2 ⊢
        by_cases hk1 : r.kind = 1
        · rw [if_pos hk1] at h2 ⊢
          split
          · exact ⟨rfl, rfl⟩
          · split
            · exact ⟨rfl, rfl⟩
            · exact ⟨rfl, rfl⟩
        · rw [if_neg hk1, if_neg hk] at h2 ⊢
          by_cases h3 : r.kind = 3
          · rw [if_pos h3] at h2 ⊢
            refine ⟨rfl, ?_⟩
            rcases claim_cases w.wb party r.id hr.2 s.clock with ⟨e, he0, he⟩ | ⟨k, i, a, hk0, hk, -, hi, ha, -, h0, -, -, -, -, -, he, hw, ht⟩
            · rw [he]
            · rw [he]; simp
          · rw [if_neg h3] at h2 ⊢
            refine ⟨rfl, ?_⟩
            rcases refund_cases w.wb party r.id s.clock with ⟨e, he0, he⟩ | ⟨k, i, a, hk0, hk, -, hi, ha, -, h0, -, -, -, he, hw, ht⟩
            · rw [he]
            · rw [he]; simp
    · rw [if_neg h2]
      dsimp only
      exact ⟨fun q => absurd q.2 h2, fun _ => ⟨rfl, rfl⟩⟩
  · rw [if_neg h1]
    dsimp only
    exact ⟨fun q => absurd q.2 (by decide), fun _ => ⟨rfl, rfl⟩⟩
/-- what the k-th of many comes to -/
theorem manyL_at {s : LS} {party : Int} : ∀ {l : List RV} {k : Nat} {r : RV}, l[k]? = some r → (manyL s party l).1[k]? = some (oneL (manyL s party (l.take k)).2 party r).1
  | [], k, r, h => by simp at h
  | x :: l, 0, r, h => by
    simp at h; subst h; rfl
  | x :: l, k + 1, r, h => by
    have := manyL_at (s := (oneL s party x).2) (party := party) (l := l) (k := k) (r := r) (by simpa using h)
    simp only [manyL, List.take_succ_cons, List.getElem?_cons_succ]
    exact this
theorem manyL_take {s : LS} {party : Int} {l : List RV} {k : Nat} {r : RV} (h : l[k]? = some r) : (manyL s party (l.take (k + 1))).2 = (oneL (manyL s party (l.take k)).2 party r).2 := by
  obtain ⟨hk, rfl⟩ := List.getElem?_eq_some_iff.1 h
  rw [List.take_succ_eq_append_getElem hk, manyL_snoc]
end Go.Proofs.YtchcgoabogcabaaGreat.Ledger

namespace Go.Proofs.YtchcgoabogcabaaGreat.Ledger
open Go.Proofs.YtchcgoabogcabaaGreat.Num Go.Proofs.YtchcgoabogcabaaGreat.Sha Go.Proofs.YtchcgoabogcabaaGreat.Purse Go.Proofs.YtchcgoabogcabaaGreat.Escrow Go.Proofs.YtchcgoabogcabaaGreat.Wire Go.Proofs.YtchcgoabogcabaaGreat.Req

/-- is there room for a request of that kind? -/
def roomK (s : LS) (k : Int) : Bool := if k = 1 then roomL s 1 else if k = 2 then roomL s 2 else true
/-- what moves -/
def transL (s : LS) (party : Int) (r : RV) : Int × BS := if r.amount = 0 then (1, s.b) else ((moveP s.b.p party r.dst r.asset r.amount).1, ⟨(moveP s.b.p party r.dst r.asset r.amount).2, s.b.l⟩)
def doL (s : LS) (party : Int) (r : RV) : (Int × Int) × BS :=
  if r.kind = 1 then ((0, (transL s party r).1), (transL s party r).2)
  else if r.kind = 2 then lockB s.b party r.dst r.asset r.amount r.hash r.due s.clock
  else if r.kind = 3 then ((0, (claimB s.b party r.id r.sec s.clock).1), (claimB s.b party r.id r.sec s.clock).2)
  else ((0, (refundB s.b party r.id s.clock).1), (refundB s.b party r.id s.clock).2)
theorem actL_full {s : LS} {party : Int} {r : RV} (h : roomK s r.kind = false) : actL s party r = ((0, 12), s.b) := by
  unfold actL; unfold roomK at h
  split
  · rename_i h1; rw [if_pos h1] at h; rw [if_pos h]
  · rename_i h1
    rw [if_neg h1] at h
    split
    · rename_i h2; rw [if_pos h2] at h; rw [if_pos h]
    · rename_i h2; rw [if_neg h2] at h; cases h
theorem actL_do {s : LS} {party : Int} {r : RV} (h : roomK s r.kind = true) : actL s party r = doL s party r := by
  unfold actL doL transL; unfold roomK at h
  split
  · rename_i h1; rw [if_pos h1] at h; rw [if_neg (by rw [h]; simp)]
    split <;> rfl
  · rename_i h1
    rw [if_neg h1] at h
    split
    · rename_i h2; rw [if_pos h2] at h; rw [if_neg (by rw [h]; simp)]
    · rfl
theorem oneL_range {s : LS} {party : Int} {r : RV} (h : ¬ (MayR r ∧ isP s.b.p party = true)) : oneL s party r = (⟨1, 0⟩, s) := if_neg h
theorem oneL_full {s : LS} {party : Int} {r : RV} (h : MayR r ∧ isP s.b.p party = true) (k : roomK s r.kind = false) : oneL s party r = (⟨12, 0⟩, s) := by
  unfold oneL
  rw [if_pos h, actL_full k]
  rfl
theorem oneL_no {s : LS} {party : Int} {r : RV} (h : MayR r ∧ isP s.b.p party = true) (k : roomK s r.kind = true) (e : (doL s party r).1.2 ≠ 0) : oneL s party r = (⟨(doL s party r).1.2, 0⟩, s) := by
  unfold oneL
  rw [if_pos h, actL_do k, if_neg e]
theorem oneL_yes {s : LS} {party : Int} {r : RV} (h : MayR r ∧ isP s.b.p party = true) (k : roomK s r.kind = true) (e : (doL s party r).1.2 = 0) : oneL s party r = (⟨0, (doL s party r).1.1⟩, ⟨s.cap, (doL s party r).2, s.clock, s.e ++ [⟨evOf party (doL s party r).1.1 r, party, s.clock⟩]⟩) := by
  unfold oneL
  rw [if_pos h, actL_do k, if_pos e]
theorem doL_no {s : LS} (w : WL s) {party : Int} {r : RV} (hr : r.ok) (k : roomK s r.kind = true) (h : (doL s party r).1.2 ≠ 0) : (doL s party r).2 = s.b := by
  rw [← actL_do k] at h ⊢
  exact (actL_no w hr h).1
/-- is it whole? -/
theorem whole_iff (r : RV) : (encB ⟨0, [r]⟩).1 = 0 ↔ MayR r := by
  have h : OkB ⟨0, [r]⟩ ↔ MayR r := ⟨fun k => k.2.2 r (List.mem_singleton.2 rfl), fun k => ⟨(by decide : I16 0), (by omega : (1 : Nat) ≤ 64), fun u hu => by rw [List.mem_singleton] at hu; exact hu ▸ k⟩⟩
  unfold encB
  by_cases k : OkB ⟨0, [r]⟩
  · rw [if_pos k]; exact ⟨fun _ => h.1 k, fun _ => rfl⟩
  · rw [if_neg k]; exact ⟨fun q => absurd q (by decide), fun q => absurd (h.2 q) k⟩
theorem whole_code (r : RV) : (encB ⟨0, [r]⟩).1 = 0 ∨ (encB ⟨0, [r]⟩).1 = 1 := by
  unfold encB; split
  · exact .inl rfl
  · exact .inr rfl
theorem MayR.lens {r : RV} (h : MayR r) : (r.hash = [] ∨ r.hash.length = 32) ∧ (r.sec = [] ∨ r.sec.length = 32) := by
  rcases h with ⟨-, -, -, -, -, -, h1, h2⟩ | ⟨-, -, -, -, -, -, h1, h2⟩ | ⟨-, -, -, -, -, -, h1, h2⟩ | ⟨-, -, -, -, -, -, h1, h2⟩ <;> constructor <;> simp [h1, h2]
/-- the event as the code makes it: all of the request, its own place of who and which -/
def evC_ (party id : Int) (r : RV) : VV := ⟨r.kind, if r.kind = 1 ∨ r.kind = 2 then party else 0, r.dst, r.asset, r.amount, if r.kind = 2 then id else r.id, r.due, r.hash, r.sec⟩
theorem evC_is {party id : Int} {r : RV} (h : MayR r) : evC_ party id r = evOf party id r := by
  unfold evC_ evOf
  rcases h with ⟨h1, -⟩ | ⟨h1, -⟩ | ⟨h1, -⟩ | ⟨h1, -⟩ <;> simp [h1]
end Go.Proofs.YtchcgoabogcabaaGreat.Ledger
