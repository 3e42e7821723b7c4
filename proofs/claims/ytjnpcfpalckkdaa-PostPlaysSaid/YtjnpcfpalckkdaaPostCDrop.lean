/-
  Package post: Drop.
-/
import Derived.Test.YtjnpcfpalckkdaaPostDel
import Derived.Test.YtjnpcfpalckkdaaPostC1
namespace Go.Proofs.Ytjnpcfpalckkdaa.Post
open Go.RowKit Go.Proofs.Ytjnpcfpalckkdaa.Sha

theorem del_val {k : Nat} {q : List PA} (hk : k < q.length) : (q.take k ++ q.drop (k + 1)).map PA.val = delP (k : Int) (q.map PA.val) := by
  have h1 : hasB (k : Int) (q.map PA.val) = true := by unfold hasB; rw [List.length_map]; exact decide_eq_true ⟨by omega, by omega⟩
  unfold delP
  rw [if_pos h1, List.map_append, List.map_take, List.map_drop, Int.toNat_natCast]
set_option maxRecDepth 100000 in
set_option maxHeartbeats 1000000 in
theorem cdrop_any {N x : Nat} {F : List Nat} {w : World} {m : Int} {l : List PV} (i : Int) (h : Ps 52 F N w x m l) : Calls Try.prog 16 #[.pointer (some ⟨x, 0, none⟩), .int .i64 i] w (NumP 52 F N x m (.bool (hasB i l)) (delP i l) w) := by
  have CH := Kept.mk (chas_any i h)
  obtain ⟨l2, hl2⟩ : ∃ z, delP i l = z := ⟨_, rfl⟩
  rw [hl2]
  by_cases hi : hasB i l = true
  · rw [hi] at CH ⊢
    obtain ⟨k, rfl, hk⟩ := has_true hi
    obtain ⟨q, rfl, P⟩ := h
    have hm := P.most
    obtain ⟨B, cp, hcp1, hcp2, X, hF⟩ := P.pv
    rw [List.length_map] at hk
    obtain ⟨g, p, rfl, -, -, -, -, -⟩ := X.at_ hk
    rw [← del_val hk] at hl2
    have c1 : w.cell? ⟨x, 1, none⟩ = some (.slice (some ⟨g, 0, none⟩) q.length cp) := X.blk.cell 1
    have hk' : (k : Int) < q.length := by omega
    have hq : q.length ≤ 200 := by omega
    have hl : ((q.take k ++ q.drop (k + 1)).length : Int) ≤ m ∧ m ≤ 200 := by simp; omega
    have CD := Kept.mk (delete_any (i := k) rfl hk X.row hq)
    replace X := Kept.mk X
    have HL := Kept.mk hl; have HV := Kept.mk hl2; have HF := Kept.mk hF
    have SUB : Kept (∀ z ∈ q.take k ++ q.drop (k + 1), z ∈ q) := ⟨fun z hz => (List.mem_append.1 hz).elim (fun h => List.mem_of_mem_take h) (fun h => List.mem_of_mem_drop h)⟩
    clear hi hl hl2 P hF hm hcp1 hcp2
    generalize q.take k ++ q.drop (k + 1) = q2 at *
    go_enter Try.func16, Try.ntmps16
    go_wp2_with fail
    refine CH.out.mono ?_
    rintro e w1 ⟨rfl, rfl⟩
    clear CH
    go_wp2_with fail
    refine CD.out.mono ?_
    rintro e w2 ⟨rfl, r2, b2⟩
    have TU := Kept.mk (X.out.turn (by decide) (by decide) b2 (by simp [Value.ownBlock]) r2 (fun z hz => X.out.each z (SUB.out z hz)) (fun z hz => .inl (by simpa [Value.ownBlock] using hz)))
    clear b2 r2 CD c1
    have c1 : w2.cell? ⟨x, 1, none⟩ = some (.slice (some ⟨g, 0, none⟩) q.length cp) := TU.out.1.cell 1
    have f1 := TU.out.1.frozen 1
    go_wp2
    go_ret
    exact ⟨_, rfl, ⟨q2, HV.out, TU.out.2.1.po HL.out⟩, HF.out ▸ TU.out.2.2⟩
  · have hi' : hasB i l = false := by simpa using hi
    rw [hi'] at CH ⊢
    unfold delP at hl2
    rw [if_neg hi] at hl2
    subst hl2
    have H := Kept.mk h
    clear h hi hi'
    go_enter Try.func16, Try.ntmps16
    go_wp2_with fail
    refine CH.out.mono ?_
    rintro e w1 ⟨rfl, rfl⟩
    go_wp2
    go_ret
    exact ⟨F, rfl, H.out, Fp.refl _ _⟩
end Go.Proofs.Ytjnpcfpalckkdaa.Post
