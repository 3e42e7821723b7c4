/-
  Parts laid together: EscrowCk.
-/
import Derived.Test.YtcebjpfmpagfjaaPart9
import Derived.Test.YtcebjpfmpagfjaaPart11
import Derived.Test.YtcebjpfmpagfjaaPart6

namespace Go.Proofs.Ytcebjpfmpagfjaa.Escrow
open Go.RowKit Go.Proofs.Ytcebjpfmpagfjaa.Sha Go.Proofs.Ytcebjpfmpagfjaa.Purse Go.Proofs.Ytcebjpfmpagfjaa.Num

theorem ctab_lt {w : World} {t : Nat} (h : Tab w t) : t < w.heap.size := by
  rcases h with h | h <;> exact Blk.lt h
theorem ctab_bar {w w' : World} {t : Nat} {l : List Nat} (h : Tab w t) (b : Bar l w w') (hl : t ∉ l) : Tab w' t := by
  rcases h with h | h
  · exact .inl (Blk.bar h b hl)
  · exact .inr (Blk.bar h b hl)
/-- the parts: the Book at block x, its table at block t, its purse at block q -/
structure Pk (w : World) (t x q : Nat) (G : List Nat) (v : Value) (p : PS) (l : List EV) : Prop where
  tab : Tab w t
  pc : Pc w G q p
  blk : Blk w x 62 #[.pointer (some ⟨t, 0, none⟩), .pointer (some ⟨q, 0, none⟩), v]
  el : El w v l
  gG : ∀ g ∈ v.ownBlock.toList, g ∉ G
  gx : ∀ g ∈ v.ownBlock.toList, g ≠ x
  gt : ∀ g ∈ v.ownBlock.toList, g ≠ t
  xG : x ∉ G
  tG : t ∉ G
  xt : x ≠ t
def fk (t x : Nat) (G : List Nat) (v : Value) : List Nat := t :: x :: (v.ownBlock.toList ++ G)
def Ck (w : World) (F : List Nat) (x q : Nat) (b : BS) : Prop := ∃ t G v, Pk w t x q G v b.p b.l ∧ F = fk t x G v
section
variable {w w' : World} {F K G : List Nat} {t x q : Nat} {v : Value} {p : PS} {l : List EV} {b : BS}
theorem fk_mem {k : Nat} : k ∈ fk t x G v ↔ k = t ∨ k = x ∨ k ∈ v.ownBlock.toList ∨ k ∈ G := by simp [fk]
theorem Pk.lts (h : Pk w t x q G v p l) : ∀ k ∈ fk t x G v, k < w.heap.size := by
  intro k hk
  rcases fk_mem.1 hk with rfl | rfl | hk | hk
  · exact ctab_lt h.tab
  · exact h.blk.lt
  · exact h.el.lt k hk
  · exact h.pc.2.lts k hk
theorem Pk.keep (h : Pk w t x q G v p l) (bb : Bar K w w') (j : Disj (fk t x G v) K) : Pk w' t x q G v p l :=
  ⟨ctab_bar h.tab bb (j t (fk_mem.2 (.inl rfl))), ⟨h.pc.1, h.pc.2.keep bb (fun k hk => j k (fk_mem.2 (.inr (.inr (.inr hk)))))⟩, h.blk.bar bb (j x (fk_mem.2 (.inr (.inl rfl)))), h.el.keep bb (fun g hg => j g (fk_mem.2 (.inr (.inr (.inl hg))))), h.gG, h.gx, h.gt, h.xG, h.tG, h.xt⟩
theorem Pk.below (h : Pk w t x q G v p l) (bb : Below w.heap.size w w') : Pk w' t x q G v p l := h.keep (barOf bb []) (fun _ _ => by simp)
theorem fp_below {F : List Nat} (bb : Below w.heap.size w w') : Fp F F w w' := ⟨barOf bb _, fun _ hk => .inl hk⟩
/-- where the purse's call has been -/
theorem Pk.purse {w2 : World} {G' : List Nat} {p' : PS} (h : Pk w t x q G v p l) (hp : Pc w2 G' q p') (fp : Fp G G' w w2) : Pk w2 t x q G' v p' l ∧ Fp (fk t x G v) (fk t x G' v) w w2 := by
  refine ⟨⟨ctab_bar h.tab fp.1 h.tG, hp, h.blk.bar fp.1 h.xG, h.el.keep fp.1 h.gG, fun g hg hm => ?_, h.gx, h.gt, fun hm => ?_, fun hm => ?_, h.xt⟩, fp.1.mono (fun k hk => .inl (fk_mem.2 (.inr (.inr (.inr hk))))), fun k hk => ?_⟩
  · rcases fp.2 g hm with e | e
    · exact h.gG g hg e
    · have := h.el.lt g hg; omega
  · rcases fp.2 x hm with e | e
    · exact h.xG e
    · have := h.blk.lt; omega
  · rcases fp.2 t hm with e | e
    · exact h.tG e
    · have := ctab_lt h.tab; omega
  · rcases fk_mem.1 hk with e | e | e | e
    · exact .inl (fk_mem.2 (.inl e))
    · exact .inl (fk_mem.2 (.inr (.inl e)))
    · exact .inl (fk_mem.2 (.inr (.inr (.inl e))))
    · rcases fp.2 k e with e | e
      · exact .inl (fk_mem.2 (.inr (.inr (.inr e))))
      · exact .inr e
/-- where a sum has been: the table may be made now -/
theorem Pk.tabled {w2 : World} (h : Pk w t x q G v p l) (ht : Tab w2 t) (bb : Bar [t] w w2) : Pk w2 t x q G v p l ∧ Fp (fk t x G v) (fk t x G v) w w2 := by
  refine ⟨⟨ht, ⟨h.pc.1, h.pc.2.keep bb (fun k hk hm => ?_)⟩, h.blk.bar bb (by simpa using h.xt), h.el.keep bb (fun g hg => by simpa using h.gt g hg), h.gG, h.gx, h.gt, h.xG, h.tG, h.xt⟩, bb.mono (fun k hk => .inl (fk_mem.2 (.inl (by simpa using hk)))), fun _ hk => .inl hk⟩
  rw [List.mem_singleton] at hm
  exact h.tG (hm ▸ hk)
theorem Ck.lts (h : Ck w F x q b) : ∀ k ∈ F, k < w.heap.size := by
  obtain ⟨t, G, v, h, rfl⟩ := h
  exact h.lts
theorem Ck.keep (h : Ck w F x q b) (bb : Bar K w w') (j : Disj F K) : Ck w' F x q b := by
  obtain ⟨t, G, v, h, rfl⟩ := h
  exact ⟨t, G, v, h.keep bb j, rfl⟩
theorem Pk.list (h : Pk w t x q G v p l) : ∃ A c, v = .slice A l.length c ∧ w.cell? ⟨x, 2, none⟩ = some (.slice A l.length c) ∧ l.length ≤ c ∧ c ≤ 9223372036854775807 := by
  obtain ⟨A, c, rfl, h4, h5⟩ := h.el.shape
  exact ⟨A, c, rfl, h.blk.cell 2, h4, h5⟩
theorem Pk.c0 (h : Pk w t x q G v p l) : w.cell? ⟨x, 0, none⟩ = some (.pointer (some ⟨t, 0, none⟩)) := h.blk.cell 0
theorem Pk.c1 (h : Pk w t x q G v p l) : w.cell? ⟨x, 1, none⟩ = some (.pointer (some ⟨q, 0, none⟩)) := h.blk.cell 1
theorem Pk.c2 (h : Pk w t x q G v p l) : w.cell? ⟨x, 2, none⟩ = some v := h.blk.cell 2
end
end Go.Proofs.Ytcebjpfmpagfjaa.Escrow
