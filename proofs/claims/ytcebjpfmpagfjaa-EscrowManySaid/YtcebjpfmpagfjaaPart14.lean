/-
  Parts laid together: EscrowFace EscrowCk2 EscrowCk3 EscrowPay EscrowCRefund.
-/
import Derived.Test.YtcebjpfmpagfjaaPart9
import Derived.Test.YtcebjpfmpagfjaaPart11
import Derived.Test.YtcebjpfmpagfjaaPart12
import Derived.Test.YtcebjpfmpagfjaaPart13
import Derived.Test.YtcebjpfmpagfjaaPart6
import Derived.Test.YtcebjpfmpagfjaaPart7
import Derived.Test.YtcebjpfmpagfjaaPart5

namespace Go.Proofs.Ytcebjpfmpagfjaa.Escrow
open Go.RowKit Go.Proofs.Ytcebjpfmpagfjaa.Sha Go.Proofs.Ytcebjpfmpagfjaa.Purse Go.Proofs.Ytcebjpfmpagfjaa.Num

theorem pc_lts {w : World} {F : List Nat} {p : Nat} {s : PS} (h : Pc w F p s) : ∀ k ∈ F, k < w.heap.size := h.2.lts
theorem pc_keep {w w' : World} {F G : List Nat} {p : Nat} {s : PS} (h : Pc w F p s) (b : Bar G w w') (j : Disj F G) : Pc w' F p s := ⟨h.1, h.2.keep b j⟩
/-- the calls of package escrow: the Book at block x, its purse at block q -/
structure EscrowApi (Ck : World → List Nat → Nat → Nat → BS → Prop) : Prop where
  lts : ∀ {w F x q b}, Ck w F x q b → ∀ k ∈ F, k < w.heap.size
  keep : ∀ {w w' F G x q b}, Ck w F x q b → Bar G w w' → Disj F G → Ck w' F x q b
  purse : ∀ {w F x q b}, Ck w F x q b → ∃ G, (∀ g ∈ G, g ∈ F) ∧ Pc w G q b.p
  new : ∀ {w G t p s}, Fresh w t → Pc w G p s → t ∉ G → Calls Try.prog 24 #[.pointer (some ⟨t, 0, none⟩), .pointer (some ⟨p, 0, none⟩)] w fun e w' => ∃ x F, e = .returned (.pointer (some ⟨x, 0, none⟩)) ∧ Ck w' F x p ⟨s, []⟩ ∧ Fp (t :: G) F w w'
  lock : ∀ {w F x q b} (i j a n : Int) (hs : List Int) (due clock : Int), Ck w F x q b → Bytes hs → b.l.length ≤ 100000 → Calls Try.prog 12 #[.pointer (some ⟨x, 0, none⟩), .int .i64 i, .int .i64 j, .int .i64 a, .int .i64 n, .string (strOfNums hs), .int .i64 due, .int .i64 clock] w (LockPost (fun w' F' b' => Ck w' F' x q b') w F (lockB b i j a n hs due clock))
  claim : ∀ {w F x q b} (who id : Int) (s : List Int) (clock : Int), Ck w F x q b → Bytes s → (∀ k, k < b.l.length → Bytes (atE b.l k).hash) → Calls Try.prog 14 #[.pointer (some ⟨x, 0, none⟩), .int .i64 who, .int .i64 id, .string (strOfNums s), .int .i64 clock] w (BookPost (fun w' F' b' => Ck w' F' x q b') w F (claimB b who id s clock))
  refund : ∀ {w F x q b} (who id clock : Int), Ck w F x q b → Calls Try.prog 16 #[.pointer (some ⟨x, 0, none⟩), .int .i64 who, .int .i64 id, .int .i64 clock] w (BookPost (fun w' F' b' => Ck w' F' x q b') w F (refundB b who id clock))
  get : ∀ {w F x q b} (id : Int), Ck w F x q b → Calls Try.prog 11 #[.pointer (some ⟨x, 0, none⟩), .int .i64 id] w (GetPost (getB b id) w)
  len : ∀ {w F x q b}, Ck w F x q b → Calls Try.prog 22 #[.pointer (some ⟨x, 0, none⟩)] w (Tells (.int .i64 (b.l.length : Nat)) w)
  open_ : ∀ {w F x q b}, Ck w F x q b → Calls Try.prog 19 #[.pointer (some ⟨x, 0, none⟩)] w (TellB (.int .i64 (openB b)) w)
  total : ∀ {w F x q b} (a : Int), Ck w F x q b → WB b → Calls Try.prog 17 #[.pointer (some ⟨x, 0, none⟩), .int .i64 a] w (TellB (.int .i64 (totB b a)) w)
  purseOf : ∀ {w F x q b}, Ck w F x q b → Calls Try.prog 10 #[.pointer (some ⟨x, 0, none⟩)] w (Tells (.pointer (some ⟨q, 0, none⟩)) w)
def MadePost (Ck : World → List Nat → Nat → Nat → BS → Prop) (w : World) (n : Nat) (X : Nat → List Int) (e : Ending) (w' : World) : Prop :=
  (¬ newOk n X ∧ e = .returned (.pointer none) ∧ Below w.heap.size w w') ∨ (newOk n X ∧ ∃ x q F, e = .returned (.pointer (some ⟨x, 0, none⟩)) ∧ Ck w' F x q ⟨newP n X, []⟩ ∧ Fp [] F w w')
section
variable {Ck : World → List Nat → Nat → Nat → BS → Prop}
theorem EscrowApi.below (api : EscrowApi Ck) {w w' : World} {F : List Nat} {x q : Nat} {b : BS} (h : Kept (Ck w F x q b)) (k : Below w.heap.size w w') : Kept (Ck w' F x q b) := ⟨api.keep h.out (barOf k []) (fun _ _ => by simp)⟩
theorem EscrowApi.drewN (api : EscrowApi Ck) {w : World} {F : List Nat} {x q : Nat} {b : BS} (h : Kept (Ck w F x q b)) (n : Nat) : Kept (Ck (w.drewN n) F x q b) := api.below h (below_drewN (Below.refl _ _) n)
set_option maxRecDepth 100000 in
set_option maxHeartbeats 1000000 in
theorem made_any (api : EscrowApi Ck) (A : Option Addr) (n cap : Nat) (X : Nat → List Int) (w : World) (hr : Rwi w A n X) : Calls Try.prog 9 #[.slice A n cap] w (MadePost Ck w n X) := by
  have N := Kept.mk (new_any A n cap X w hr)
  clear hr
  go_enter Try.func9, Try.ntmps9
  go_wp2_with fail
  refine N.out.mono ?_
  rintro e w1 (⟨hn, rfl, bb⟩ | ⟨hn, p, G, rfl, hp, fp⟩)
  · go_wp2
    go_ret
    exact .inl ⟨hn, rfl, bb⟩
  · have FP := Kept.mk fp
    have HP := Kept.mk hp
    clear hp fp N
    go_wp2_with fail
    refine (newtable_any w1).mono ?_
    rintro e w2 ⟨rfl, rfl⟩
    have hG : w1.heap.size ∉ G := fun h => Nat.lt_irrefl _ (pc_lts HP.out _ h)
    have b2 : Below w1.heap.size w1 (w1.alloc (.cells (tbl (.int .u32 0) (.int .i32 0) (.int .u32 0) 0 0) 92)) := (Below.refl _ _).alloc (Nat.le_refl _) _
    have hf : Fresh (w1.alloc (.cells (tbl (.int .u32 0) (.int .i32 0) (.int .u32 0) 0 0) 92)) w1.heap.size := Blk.new _ _ _
    have CN := Kept.mk (api.new hf (pc_keep HP.out (barOf b2 []) (fun _ _ => by simp)) hG)
    have F2 : Kept (Fp [] (w1.heap.size :: G) w (w1.alloc (.cells (tbl (.int .u32 0) (.int .i32 0) (.int .u32 0) 0 0) 92))) := ⟨FP.out.trans ⟨barOf b2 _, fun k hk => by
      rcases List.mem_cons.1 hk with rfl | hk
      · exact .inr (Nat.le_refl _)
      · exact .inl hk⟩⟩
    clear hf b2
    go_wp2_with fail
    refine CN.out.mono ?_
    rintro e w3 ⟨x, F, rfl, hc, fp⟩
    have HC := Kept.mk hc
    have F3 := Kept.mk (F2.out.trans fp)
    clear hc fp
    go_wp2
    go_ret
    exact .inr ⟨hn, x, p, F, rfl, HC.out, F3.out⟩
end
end Go.Proofs.Ytcebjpfmpagfjaa.Escrow

namespace Go.Proofs.Ytcebjpfmpagfjaa.Escrow
open Go.RowKit Go.Proofs.Ytcebjpfmpagfjaa.Sha Go.Proofs.Ytcebjpfmpagfjaa.Purse Go.Proofs.Ytcebjpfmpagfjaa.Num

section
variable {w : World} {F G : List Nat} {t x q : Nat} {v : Value} {p : PS} {l : List EV} {b : BS}
set_option maxHeartbeats 400000 in
theorem cbelow_any (i n : Int) (w : World) : Calls Try.prog 26 #[.int .i64 i, .int .i64 n] w fun e w' => e = .returned (.bool (decide (0 ≤ i ∧ i < n))) ∧ w = w' := by
  by_cases h0 : 0 ≤ i
  · by_cases h1 : i < n
    · rw [decide_eq_true (⟨h0, h1⟩ : 0 ≤ i ∧ i < n)]
      go_enter Try.func26, Try.ntmps26
      go_wp2
      go_ret
      exact ⟨rfl, rfl⟩
    · rw [decide_eq_false (fun h => h1 h.2 : ¬ (0 ≤ i ∧ i < n))]
      have hd : decide (i < n) = false := decide_eq_false h1
      go_enter Try.func26, Try.ntmps26
      go_wp2
      go_ret
      exact ⟨rfl, rfl⟩
  · rw [decide_eq_false (fun h => h0 h.1 : ¬ (0 ≤ i ∧ i < n))]
    go_enter Try.func26, Try.ntmps26
    go_wp2
    go_ret
    exact ⟨rfl, rfl⟩
theorem cparty_any (h : Pk w t x q G v p l) (i : Int) : Calls Try.prog 27 #[.pointer (some ⟨x, 0, none⟩), .int .i64 i] w fun e w' => e = .returned (.bool (isP p i)) ∧ w = w' := by
  have x1 := h.c1
  have N := Kept.mk (parties_any h.pc)
  have L := Kept.mk (cbelow_any i p.np)
  rw [show decide (0 ≤ i ∧ i < (p.np : Int)) = isP p i from rfl] at L
  clear h
  generalize isP p i = r at *
  generalize p.np = np at *
  go_enter Try.func27, Try.ntmps27
  go_wp2_with (first | (go_at_call 43; refine N.out.mono ?_; rintro e w' ⟨rfl, rfl⟩) | (go_at_call 26; refine (L.out _).mono ?_; rintro e w' ⟨rfl, rfl⟩))
  go_ret
  exact ⟨rfl, rfl⟩
theorem casset_any (h : Pk w t x q G v p l) (i : Int) : Calls Try.prog 28 #[.pointer (some ⟨x, 0, none⟩), .int .i64 i] w fun e w' => e = .returned (.bool (isA p i)) ∧ w = w' := by
  have x1 := h.c1
  have N := Kept.mk (assets_any h.pc)
  have L := Kept.mk (cbelow_any i p.na)
  rw [show decide (0 ≤ i ∧ i < (p.na : Int)) = isA p i from rfl] at L
  clear h
  generalize isA p i = r at *
  generalize p.na = np at *
  go_enter Try.func28, Try.ntmps28
  go_wp2_with (first | (go_at_call 44; refine N.out.mono ?_; rintro e w' ⟨rfl, rfl⟩) | (go_at_call 26; refine (L.out _).mono ?_; rintro e w' ⟨rfl, rfl⟩))
  go_ret
  exact ⟨rfl, rfl⟩
theorem clen_any (h : Pk w t x q G v p l) : Calls Try.prog 22 #[.pointer (some ⟨x, 0, none⟩)] w fun e w' => e = .returned (.int .i64 (l.length : Nat)) ∧ w = w' := by
  obtain ⟨A, c, -, x2, hc, hcm⟩ := h.list
  clear h
  generalize l.length = n at *
  go_enter Try.func22, Try.ntmps22
  go_wp2
  go_ret
  exact ⟨rfl, rfl⟩
theorem cpurse_any (h : Pk w t x q G v p l) : Calls Try.prog 10 #[.pointer (some ⟨x, 0, none⟩)] w fun e w' => e = .returned (.pointer (some ⟨q, 0, none⟩)) ∧ w = w' := by
  have x1 := h.c1
  clear h
  go_enter Try.func10, Try.ntmps10
  go_wp2
  go_ret
  exact ⟨rfl, rfl⟩
set_option maxRecDepth 100000 in
set_option maxHeartbeats 1000000 in
theorem cget_any (h : Pk w t x q G v b.p b.l) (id : Int) : Calls Try.prog 11 #[.pointer (some ⟨x, 0, none⟩), .int .i64 id] w (GetPost (getB b id) w) := by
  obtain ⟨A, c, hv, x1, hc, hcm⟩ := h.list
  have L := Kept.mk (cbelow_any id b.l.length)
  have H := Kept.mk h
  clear h
  cases hE : hasE b.l id with
  | false =>
    have e : getB b id = (noE, false) := by unfold getB; rw [hE]; rfl
    rw [e]
    rw [show decide (0 ≤ id ∧ id < (b.l.length : Int)) = false from hE] at L
    have bz : Below w.heap.size w (w.alloc (.cells #[.int .i64 0, .int .i64 0, .int .i64 0, .int .i64 0, .int .i64 0, .int .i64 0, .string ⟨#[]⟩, .string ⟨#[]⟩] 34)) := (Below.refl _ _).alloc (Nat.le_refl _) _
    have x2 := (bz.cell (p := ⟨x, 2, none⟩) (World.block_lt_of_cell? _ _ x1)).trans x1
    clear e bz hE hv H
    generalize b.l.length = n at *
    go_enter Try.func11, Try.ntmps11
    go_wp2_with (go_at_call 26; refine (L.out _).mono ?_; rintro e w' ⟨rfl, rfl⟩)
    exact bodyPost_ret (v := .tuple #[evV noE, .bool false]) (by simp [results, Try.results11, go_sem]; rfl) rfl ⟨rfl, (Below.refl _ _).alloc (Nat.le_refl _) _⟩
  | true =>
    rw [show decide (0 ≤ id ∧ id < (b.l.length : Int)) = true from hE] at L
    obtain ⟨k, rfl, hk⟩ := hasE_nat hE
    have e : getB b k = (atE b.l k, true) := by unfold getB; rw [if_pos hE, Int.toNat_natCast]
    rw [e]
    obtain ⟨g, c', hv2, -, -, -, y0, y1, y2, y3, y4, y5, y6, y7⟩ := H.out.el.cells hk
    rw [hv] at hv2
    injection hv2 with hA _ _
    subst hA
    have gl : g < w.heap.size := World.block_lt_of_cell? _ _ y0
    clear e hE hv H
    generalize b.l.length = n at *
    generalize atE b.l k = ev at *
    have bz : Below w.heap.size w (w.alloc (.cells #[.int .i64 0, .int .i64 0, .int .i64 0, .int .i64 0, .int .i64 0, .int .i64 0, .string ⟨#[]⟩, .string ⟨#[]⟩] 34)) := (Below.refl _ _).alloc (Nat.le_refl _) _
    have x2 := (bz.cell (p := ⟨x, 2, none⟩) (World.block_lt_of_cell? _ _ x1)).trans x1
    have z0 := (bz.cell (p := ⟨g, k * 8, none⟩) (World.block_lt_of_cell? _ _ y0)).trans y0
    have z1 := (bz.cell (p := ⟨g, k * 8 + 1, none⟩) (World.block_lt_of_cell? _ _ y1)).trans y1
    have z2 := (bz.cell (p := ⟨g, k * 8 + 2, none⟩) (World.block_lt_of_cell? _ _ y2)).trans y2
    have z3 := (bz.cell (p := ⟨g, k * 8 + 3, none⟩) (World.block_lt_of_cell? _ _ y3)).trans y3
    have z4 := (bz.cell (p := ⟨g, k * 8 + 4, none⟩) (World.block_lt_of_cell? _ _ y4)).trans y4
    have z5 := (bz.cell (p := ⟨g, k * 8 + 5, none⟩) (World.block_lt_of_cell? _ _ y5)).trans y5
    have z6 := (bz.cell (p := ⟨g, k * 8 + 6, none⟩) (World.block_lt_of_cell? _ _ y6)).trans y6
    have z7 := (bz.cell (p := ⟨g, k * 8 + 7, none⟩) (World.block_lt_of_cell? _ _ y7)).trans y7
    clear bz y0 y1 y2 y3 y4 y5 y6 y7
    go_enter Try.func11, Try.ntmps11
    go_wp2_with (go_at_call 26; refine (L.out _).mono ?_; rintro e w' ⟨rfl, rfl⟩)
    exact bodyPost_ret (v := .tuple #[evV ev, .bool true]) (by simp [results, Try.results11, go_sem]; rfl) rfl ⟨rfl, (Below.refl _ _).alloc (Nat.le_refl _) _⟩
theorem cnew_any {p : Nat} {s : PS} (hf : Fresh w t) (hp : Pc w G p s) (ht : t ∉ G) : Calls Try.prog 24 #[.pointer (some ⟨t, 0, none⟩), .pointer (some ⟨p, 0, none⟩)] w fun e w' => ∃ x F, e = .returned (.pointer (some ⟨x, 0, none⟩)) ∧ Ck w' F x p ⟨s, []⟩ ∧ Fp (t :: G) F w w' := by
  have HF := Kept.mk hf
  have HP := Kept.mk hp
  have HT := Kept.mk ht
  clear hf hp ht
  go_enter Try.func24, Try.ntmps24
  go_wp2
  go_ret
  have b0 : Below w.heap.size w (w.alloc (.cells #[.pointer (some ⟨t, 0, none⟩), .pointer (some ⟨p, 0, none⟩), .slice none 0 0] 62)) := (Below.refl _ _).alloc (Nat.le_refl _) _
  have tl : t < w.heap.size := Blk.lt HF.out
  refine ⟨w.heap.size, fk t w.heap.size G (.slice none 0 0), rfl, ⟨t, G, .slice none 0 0, ⟨.inl (Blk.below HF.out b0 tl), pc_keep HP.out (barOf b0 []) (fun _ _ => by simp), Blk.new _ _ _, El.nil _, fun g hg => by simp [Value.ownBlock] at hg, fun g hg => by simp [Value.ownBlock] at hg, fun g hg => by simp [Value.ownBlock] at hg, fun hm => Nat.lt_irrefl _ (pc_lts HP.out _ hm), HT.out, by omega⟩, rfl⟩, barOf b0 _, fun k hk => ?_⟩
  rcases fk_mem.1 hk with e | e | e | e
  · exact .inl (by simp [e])
  · exact .inr (by omega)
  · simp [Value.ownBlock] at e
  · exact .inl (by simp [e])
end
end Go.Proofs.Ytcebjpfmpagfjaa.Escrow

namespace Go.Proofs.Ytcebjpfmpagfjaa.Escrow
open Go.RowKit Go.Proofs.Ytcebjpfmpagfjaa.Sha Go.Proofs.Ytcebjpfmpagfjaa.Purse Go.Proofs.Ytcebjpfmpagfjaa.Num

section
variable {w : World} {F G : List Nat} {t x q : Nat} {v : Value} {p : PS} {l : List EV} {b : BS}
set_option maxRecDepth 100000 in
set_option maxHeartbeats 1000000 in
theorem copen_any (h : Pk w t x q G v b.p b.l) : Calls Try.prog 19 #[.pointer (some ⟨x, 0, none⟩)] w (TellB (.int .i64 (openB b)) w) := by
  obtain ⟨A, c, hv, x1, hc, hcm⟩ := h.list
  have H := Kept.mk h
  clear h
  obtain ⟨n, hn⟩ : ∃ n, b.l.length = n := ⟨_, rfl⟩
  rw [hn] at x1 hc
  have HN := Kept.mk hn
  have HV := Kept.mk hv
  unfold openB
  clear hn hv
  go_enter Try.func19, Try.ntmps19
  go_wp2
  go_loopw [3, 11] (fun s i wr => ∃ k z : Nat, k ≤ n ∧ z ≤ k ∧ i = .int .i64 k ∧ s = .int .i64 z ∧ Kept (openN b.l k = z) ∧ Kept (Below w.heap.size w wr)) (fun s i _ => n - (Go.RowKit.intOf i).toNat)
  case atStart => exact ⟨0, 0, by omega, by omega, rfl, rfl, ⟨rfl⟩, ⟨Below.refl _ _⟩⟩
  case round =>
    obtain ⟨k, z, hk, hz, rfl, rfl, HZ, BB⟩ := hrel
    by_cases hkn : k < n
    · have hkn' : (k : Int) < n := by omega
      obtain ⟨g, c', hv, -, -, -, y0, y1, y2, y3, y4, y5, y6, y7⟩ := (H.out.below BB.out).el.cells (k := k) (by rw [HN.out]; exact hkn)
      rw [HV.out] at hv
      injection hv with hA _ _
      subst hA
      have hs : openN b.l (k + 1) = z + if (atE b.l k).state = 0 then 1 else 0 := by
        show openN b.l k + _ = _
        rw [HZ.out]
      by_cases h0 : (atE b.l k).state = 0
      · rw [if_pos h0] at hs
        rw [h0] at y5
        have HS := Kept.mk hs
        clear hs h0
        generalize atE b.l k = ev at *
        go_wp2
        go_roundw
        case rel => exact ⟨k + 1, z + 1, by omega, by omega, by go_num, by go_num, HS, ⟨BB.out.alloc BB.out.size _⟩⟩
        case measure => simp [Go.RowKit.intOf]; omega
      · rw [if_neg h0] at hs
        have HS := Kept.mk hs
        have hb0 : ((atE b.l k).state == 0) = false := beq_eq_false_iff_ne.2 h0
        clear hs h0
        generalize atE b.l k = ev at *
        go_wp2
        go_roundw
        case rel => exact ⟨k + 1, z, by omega, by omega, by go_num, rfl, HS, ⟨BB.out.alloc BB.out.size _⟩⟩
        case measure => simp [Go.RowKit.intOf]; omega
    · have hkn' : ¬ (k : Int) < n := by omega
      obtain rfl : k = n := by omega
      go_wp2
      go_ret
      exact ⟨by rw [HN.out, HZ.out]; rfl, BB.out⟩
set_option maxRecDepth 100000 in
set_option maxHeartbeats 1000000 in
theorem ctot_any (h : Pk w t x q G v b.p b.l) (wb : WB b) (a : Int) : Calls Try.prog 17 #[.pointer (some ⟨x, 0, none⟩), .int .i64 a] w (TellB (.int .i64 (totB b a)) w) := by
  obtain ⟨A, c, hv, x2, hc, hcm⟩ := h.list
  have x1 := h.c1
  have H := Kept.mk h
  have W := Kept.mk wb
  have T := Kept.mk (total_any h.pc a)
  clear h wb
  obtain ⟨n, hn⟩ : ∃ n, b.l.length = n := ⟨_, rfl⟩
  rw [hn] at x2 hc
  have HN := Kept.mk hn
  have HV := Kept.mk hv
  obtain ⟨t0, ht0⟩ : ∃ t0, totP b.p a = t0 := ⟨_, rfl⟩
  rw [ht0] at T
  have HT := Kept.mk ht0
  clear hn ht0 hv
  go_enter Try.func17, Try.ntmps17
  go_wp2_with (go_at_call 39; refine T.out.mono ?_; rintro e w' ⟨rfl, rfl⟩)
  go_loopw [5, 19] (fun s i wr => ∃ (k : Nat) (z : Int), k ≤ n ∧ i = .int .i64 k ∧ s = .int .i64 z ∧ Kept (t0 + lockedN b.l a k = z) ∧ Kept (Below w.heap.size w wr)) (fun s i _ => n - (Go.RowKit.intOf i).toNat)
  case atStart => exact ⟨0, t0, by omega, rfl, rfl, ⟨by simp [lockedN]⟩, ⟨Below.refl _ _⟩⟩
  case round =>
    obtain ⟨k, z, hk, rfl, rfl, HZ, BB⟩ := hrel
    by_cases hkn : k < n
    · have hkn' : (k : Int) < n := by omega
      obtain ⟨g, c', hv, -, -, -, y0, y1, y2, y3, y4, y5, y6, y7⟩ := (H.out.below BB.out).el.cells (k := k) (by rw [HN.out]; exact hkn)
      rw [HV.out] at hv
      injection hv with hA _ _
      subst hA
      have hs : t0 + lockedN b.l a (k + 1) = z + if (atE b.l k).state = 0 ∧ (atE b.l k).asset = a then (atE b.l k).amount else 0 := by
        rw [← HZ.out]
        show t0 + (lockedN b.l a k + _) = _
        omega
      have p0 := W.out.part a (k := k) (by rw [HN.out]; omega)
      have p1 := W.out.part a (k := k + 1) (by rw [HN.out]; omega)
      rw [HT.out, HZ.out] at p0
      rw [HT.out, hs] at p1
      have am := (W.out.each k (by rw [HN.out]; exact hkn)).2.2.2
      have am0 := am.1
      have am1 := am.2.1
      clear am
      by_cases h0 : (atE b.l k).state = 0
      · rw [h0] at y5
        by_cases ha : (atE b.l k).asset = a
        · rw [if_pos ⟨h0, ha⟩] at hs p1
          rw [ha] at y2
          have HS := Kept.mk hs
          clear hs h0 ha
          generalize (atE b.l k).amount = en at *
          have hgt : ¬ en > 9223372036854775807 - z := by omega
          go_wp2
          go_roundw
          case rel => exact ⟨k + 1, z + en, by omega, by go_num, rfl, HS, ⟨BB.out.alloc BB.out.size _⟩⟩
          case measure => simp [Go.RowKit.intOf]; omega
        · rw [if_neg (fun e => ha e.2)] at hs p1
          have HS := Kept.mk hs
          have hba : ((atE b.l k).asset == a) = false := beq_eq_false_iff_ne.2 ha
          clear hs h0 ha
          generalize atE b.l k = ev at *
          go_wp2
          go_roundw
          case rel => exact ⟨k + 1, z, by omega, by go_num, rfl, ⟨by rw [HS.out]; omega⟩, ⟨BB.out.alloc BB.out.size _⟩⟩
          case measure => simp [Go.RowKit.intOf]; omega
      · rw [if_neg (fun e => h0 e.1)] at hs p1
        have HS := Kept.mk hs
        have hb0 : ((atE b.l k).state == 0) = false := beq_eq_false_iff_ne.2 h0
        clear hs h0
        generalize atE b.l k = ev at *
        go_wp2
        go_roundw
        case rel => exact ⟨_, _, _, _, ⟨k + 1, by omega, by go_num, z, rfl, ⟨by rw [HS.out]; omega⟩, ⟨BB.out.alloc BB.out.size _⟩⟩, rfl, rfl, rfl, rfl⟩
        case measure => simp [Go.RowKit.intOf]; omega
    · have hkn' : ¬ (k : Int) < n := by omega
      obtain rfl : k = n := by omega
      go_wp2
      go_ret
      exact ⟨by unfold totB; rw [HN.out, HT.out, HZ.out]; rfl, BB.out⟩
end
end Go.Proofs.Ytcebjpfmpagfjaa.Escrow

namespace Go.Proofs.Ytcebjpfmpagfjaa.Escrow
open Go.RowKit Go.Proofs.Ytcebjpfmpagfjaa.Sha Go.Proofs.Ytcebjpfmpagfjaa.Purse Go.Proofs.Ytcebjpfmpagfjaa.Num

/-- an escrow k closed as e is: who has its amount, or not -/
def payB (b : BS) (who : Int) (k : Nat) (e : EV) : Int × BS :=
  if (giveP b.p who e.asset e.amount).1 ≠ 0 then ((giveP b.p who e.asset e.amount).1, b) else (0, ⟨(giveP b.p who e.asset e.amount).2, b.l.set k e⟩)
section
variable {w : World} {F G : List Nat} {t x q : Nat} {v : Value} {p : PS} {l : List EV} {b : BS}
/-- escrow k of a row is laid anew, cell by cell -/
def set8 (w : World) (g k : Nat) (e : EV) : World := (((((((w.setCell ⟨g, k * 8 + 0, none⟩ (.int .i64 e.src)).setCell ⟨g, k * 8 + 1, none⟩ (.int .i64 e.dst)).setCell ⟨g, k * 8 + 2, none⟩ (.int .i64 e.asset)).setCell ⟨g, k * 8 + 3, none⟩ (.int .i64 e.amount)).setCell ⟨g, k * 8 + 4, none⟩ (.int .i64 e.due)).setCell ⟨g, k * 8 + 5, none⟩ (.int .i64 e.state)).setCell ⟨g, k * 8 + 6, none⟩ (.string (strOfNums e.hash))).setCell ⟨g, k * 8 + 7, none⟩ (.string (strOfNums e.secret))
theorem El.next {g c k j : Nat} {l : List EV} {e0 e1 : EV} {u : Value} {w : World} (h : El w (.slice (some ⟨g, 0, none⟩) (l.set k e0).length c) (l.set k e0)) (hk : k < l.length) (hj : j < 8) (hx : evC e1 = (evC e0).set j u) : El (w.setCell ⟨g, k * 8 + j, none⟩ u) (.slice (some ⟨g, 0, none⟩) (l.set k e1).length c) (l.set k e1) := by
  have h1 := h.set (k := k) (j := j) (u := u) (x := e1) (by rw [List.length_set]; exact hk) hj (by rw [atE_set _ hk, if_pos rfl]; exact hx)
  rw [List.set_set] at h1
  exact h1
theorem El.set8 {g c k : Nat} (h : El w (.slice (some ⟨g, 0, none⟩) l.length c) l) (hk : k < l.length) (e : EV) : El (set8 w g k e) (.slice (some ⟨g, 0, none⟩) (l.set k e).length c) (l.set k e) := by
  obtain ⟨es, ed, ea, en, eu, et, eh, ec⟩ := e
  have h0 := h.set (k := k) (j := 0) (u := .int .i64 es) (x := { atE l k with src := es }) hk (by decide) rfl
  have h1 := h0.next (j := 1) (u := .int .i64 ed) (e1 := { atE l k with src := es, dst := ed }) hk (by decide) rfl
  have h2 := h1.next (j := 2) (u := .int .i64 ea) (e1 := { atE l k with src := es, dst := ed, asset := ea }) hk (by decide) rfl
  have h3 := h2.next (j := 3) (u := .int .i64 en) (e1 := { atE l k with src := es, dst := ed, asset := ea, amount := en }) hk (by decide) rfl
  have h4 := h3.next (j := 4) (u := .int .i64 eu) (e1 := { atE l k with src := es, dst := ed, asset := ea, amount := en, due := eu }) hk (by decide) rfl
  have h5 := h4.next (j := 5) (u := .int .i64 et) (e1 := { atE l k with src := es, dst := ed, asset := ea, amount := en, due := eu, state := et }) hk (by decide) rfl
  have h6 := h5.next (j := 6) (u := .string (strOfNums eh)) (e1 := { atE l k with src := es, dst := ed, asset := ea, amount := en, due := eu, state := et, hash := eh }) hk (by decide) rfl
  exact h6.next (j := 7) (u := .string (strOfNums ec)) (e1 := ⟨es, ed, ea, en, eu, et, eh, ec⟩) hk (by decide) rfl
theorem Pk.set8 {g c k : Nat} (h : Pk w t x q G (.slice (some ⟨g, 0, none⟩) l.length c) p l) (hk : k < l.length) (e : EV) :
    Pk (set8 w g k e) t x q G (.slice (some ⟨g, 0, none⟩) (l.set k e).length c) p (l.set k e) ∧ Fp (fk t x G (.slice (some ⟨g, 0, none⟩) l.length c)) (fk t x G (.slice (some ⟨g, 0, none⟩) (l.set k e).length c)) w (set8 w g k e) := by
  have b : Bar [g] w (Escrow.set8 w g k e) := ((((((((Bar.refl _ w).setCell (by simp) _).setCell (by simp) _).setCell (by simp) _).setCell (by simp) _).setCell (by simp) _).setCell (by simp) _).setCell (by simp) _).setCell (by simp) _
  have gG := h.gG g (Option.mem_toList.2 rfl)
  have gx := h.gx g (Option.mem_toList.2 rfl)
  have gt := h.gt g (Option.mem_toList.2 rfl)
  refine ⟨⟨ctab_bar h.tab b (by simpa using fun e => gt e.symm), ⟨h.pc.1, h.pc.2.keep b (fun z hz hm => by rw [List.mem_singleton] at hm; exact gG (hm ▸ hz))⟩, ?_, h.el.set8 hk e, h.gG, h.gx, h.gt, h.xG, h.tG, h.xt⟩, b.mono (fun z hz => .inl (fk_mem.2 (.inr (.inr (.inl (by rw [List.mem_singleton] at hz; subst hz; exact Option.mem_toList.2 rfl)))))), fun _ hk => .inl hk⟩
  rw [List.length_set]
  exact h.blk.bar b (by simpa using fun e => gx e.symm)
set_option maxRecDepth 100000 in
set_option maxHeartbeats 1000000 in
theorem pay_any (h : Pk w t x q G v b.p b.l) (who : Int) (k : Nat) (hk : k < b.l.length) (e : EV) : Calls Try.prog 34 #[.pointer (some ⟨x, 0, none⟩), .int .i64 who, .int .i64 k, evV e] w (BookPost (fun w' F' b' => Ck w' F' x q b') w (fk t x G v) (payB b who k e)) := by
  obtain ⟨es, ed, ea, en, eu, et, eh, ec⟩ := e
  have b0 : Below w.heap.size w (w.alloc (.cells #[.int .i64 es, .int .i64 ed, .int .i64 ea, .int .i64 en, .int .i64 eu, .int .i64 et, .string (strOfNums eh), .string (strOfNums ec)] 34)) := (Below.refl _ _).alloc (Nat.le_refl _) _
  have nb : Blk (w.alloc (.cells #[.int .i64 es, .int .i64 ed, .int .i64 ea, .int .i64 en, .int .i64 eu, .int .i64 et, .string (strOfNums eh), .string (strOfNums ec)] 34)) w.heap.size 34 #[.int .i64 es, .int .i64 ed, .int .i64 ea, .int .i64 en, .int .i64 eu, .int .i64 et, .string (strOfNums eh), .string (strOfNums ec)] := Blk.new _ _ _
  obtain ⟨te, ts, hT⟩ : ∃ te ts, giveP b.p who ea en = (te, ts) := ⟨_, _, rfl⟩
  have HT := Kept.mk hT
  have P0 := Kept.mk h
  unfold evV
  dsimp only
  go_enter Try.func34, Try.ntmps34
  go_upto_region 1 with fail
  obtain ⟨N, hN⟩ : ∃ N, w.heap.size = N := ⟨_, rfl⟩
  rw [hN] at nb b0
  rw [hN]
  have NG : Kept (N ∉ G) := ⟨fun hm => by have := h.pc.2.lts _ hm; omega⟩
  have P1 : Kept (Pk (w.alloc (.cells #[.int .i64 es, .int .i64 ed, .int .i64 ea, .int .i64 en, .int .i64 eu, .int .i64 et, .string (strOfNums eh), .string (strOfNums ec)] 34)).drew t x q G v b.p b.l) := ⟨(h.keep (barOf (hN ▸ b0) []) (fun _ _ => by simp)).below (Below.refl _ _).drew⟩
  have FP1 : Kept (Fp (fk t x G v) (fk t x G v) w (w.alloc (.cells #[.int .i64 es, .int .i64 ed, .int .i64 ea, .int .i64 en, .int .i64 eu, .int .i64 et, .string (strOfNums eh), .string (strOfNums ec)] 34)).drew) := ⟨barOf (hN ▸ b0.drew) _, fun _ hk => .inl hk⟩
  have NB := Kept.mk (nb.below (Below.refl _ _).drew nb.lt)
  have GV := Kept.mk (give_any who ea en P1.out.pc)
  rw [hT] at GV
  have x1 := P1.out.c1
  clear h b0 nb hN
  generalize hW : (w.alloc (.cells #[.int .i64 es, .int .i64 ed, .int .i64 ea, .int .i64 en, .int .i64 eu, .int .i64 et, .string (strOfNums eh), .string (strOfNums ec)] 34)) = w1 at *
  have n2 : w1.cell? ⟨N, 2, none⟩ = some (.int .i64 ea) := NB.out.cell 2
  have n3 : w1.cell? ⟨N, 3, none⟩ = some (.int .i64 en) := NB.out.cell 3
  have x1' : w1.cell? ⟨x, 1, none⟩ = some (.pointer (some ⟨q, 0, none⟩)) := x1
  refine wp_region_still_tail 9 (by kernel_rfl) (by kernel_rfl) ?_
  simp only [List.take_succ_cons, List.take_zero, List.drop_succ_cons, List.drop_zero]
  repeat still_step
  refine wpStill_nil ?_
  change wpList _ _ _ _ _ w1.drew
  go_wp2_with fail
  refine GV.out.mono ?_
  rintro e w2 ⟨rfl, G', hp, fp⟩
  have PP := P1.out.purse hp fp
  have P2 := Kept.mk PP.1
  have F2 := Kept.mk (FP1.out.trans PP.2)
  have N2 := Kept.mk (NB.out.bar fp.1 NG.out)
  clear PP hp fp GV P1 FP1 NB n2 n3 x1 x1'
  by_cases h0 : te = 0
  · subst h0
    have RF : Kept (payB b who k ⟨es, ed, ea, en, eu, et, eh, ec⟩ = (0, ⟨ts, b.l.set k ⟨es, ed, ea, en, eu, et, eh, ec⟩⟩)) := ⟨by unfold payB; rw [HT.out, if_neg (by simp)]⟩
    obtain ⟨g, c, hv, hc, -, fz, y0, y1, y2, y3, y4, y5, y6, y7⟩ := P2.out.el.cells hk
    subst hv
    have x2 := P2.out.c2
    have n0 := N2.out.cell 0
    have n1 := N2.out.cell 1
    have n2 := N2.out.cell 2
    have n3 := N2.out.cell 3
    have n4 := N2.out.cell 4
    have n5 := N2.out.cell 5
    have n6 := N2.out.cell 6
    have n7 := N2.out.cell 7
    go_upto_region 4 with fail
    refine wp_region_still_tail 7 (by kernel_rfl) (by kernel_rfl) ?_
    simp only [List.take_succ_cons, List.take_zero, List.drop_succ_cons, List.drop_zero]
    repeat still_step
    refine wpStill_nil ?_
    change wpList _ _ _ _ _ w2.drew
    have f0 := fz (k * 8)
    have f1 := fz (k * 8 + 1)
    have f2 := fz (k * 8 + 2)
    have f3 := fz (k * 8 + 3)
    have f4 := fz (k * 8 + 4)
    have f5 := fz (k * 8 + 5)
    have f6 := fz (k * 8 + 6)
    have f7 := fz (k * 8 + 7)
    clear n0 n1 n2 n3 n4 n5 n6 n7 fz x2
    have ST := Kept.mk (P2.out.set8 hk ⟨es, ed, ea, en, eu, et, eh, ec⟩)
    go_wp2
    go_ret
    rw [RF.out]
    exact ⟨rfl, _, ⟨t, G', _, ST.out.1.below (Below.refl _ _).drew, rfl⟩, F2.out.trans ⟨ST.out.2.1.drew, ST.out.2.2⟩⟩
  · have RF : Kept (payB b who k ⟨es, ed, ea, en, eu, et, eh, ec⟩ = (te, b)) := ⟨by unfold payB; rw [HT.out, if_pos h0]⟩
    obtain rfl : ts = b.p := give_same HT.out h0
    have h0' : (te == 0) = false := beq_eq_false_iff_ne.2 h0
    go_wp2
    go_ret
    rw [RF.out]
    exact ⟨rfl, _, ⟨t, G', v, P2.out, rfl⟩, F2.out⟩
end
end Go.Proofs.Ytcebjpfmpagfjaa.Escrow

namespace Go.Proofs.Ytcebjpfmpagfjaa.Escrow
open Go.RowKit Go.Proofs.Ytcebjpfmpagfjaa.Sha Go.Proofs.Ytcebjpfmpagfjaa.Purse Go.Proofs.Ytcebjpfmpagfjaa.Num

section
variable {w : World} {F : List Nat} {x q : Nat} {b : BS}
set_option maxRecDepth 100000 in
set_option maxHeartbeats 2000000 in
theorem crefund_any (h : Ck w F x q b) (who id clock : Int) : Calls Try.prog 16 #[.pointer (some ⟨x, 0, none⟩), .int .i64 who, .int .i64 id, .int .i64 clock] w (BookPost (fun w' F' b' => Ck w' F' x q b') w F (refundB b who id clock)) := by
  obtain ⟨t, G, v, P, rfl⟩ := h
  have GT := Kept.mk (cget_any P id)
  have P0 := Kept.mk P
  have TI := Kept.mk (fun w => tick_any clock w)
  clear P
  cases hE : hasE b.l id with
  | false =>
    rw [show getB b id = (noE, false) from by unfold getB; rw [hE]; rfl] at GT
    have RF : Kept (refundB b who id clock = (8, b)) := ⟨by unfold refundB; rw [if_pos hE]⟩
    go_enter Try.func16, Try.ntmps16
    go_wp2_with fail
    refine GT.out.mono ?_
    rintro e w1 ⟨hx, b1⟩
    replace hx : e = .returned (.tuple #[.agg #[.int .i64 0, .int .i64 0, .int .i64 0, .int .i64 0, .int .i64 0, .int .i64 0, .string ⟨#[]⟩, .string ⟨#[]⟩], .bool false]) := hx
    subst hx
    have B1 := Kept.mk b1
    clear b1 GT
    go_wp2_with (go_at_call 30; (with_reducible refine (TI.out _).mono ?_); rintro e w' ⟨rfl, rfl⟩)
    go_ret
    rw [RF.out]
    have b2 := B1.out.alloc B1.out.size (.cells #[.int .i64 0, .int .i64 0, .int .i64 0, .int .i64 0, .int .i64 0, .int .i64 0, .string ⟨#[]⟩, .string ⟨#[]⟩] 34)
    exact ⟨rfl, _, ⟨t, G, v, P0.out.below b2, rfl⟩, fp_below b2⟩
  | true =>
    rw [show getB b id = (atE b.l id.toNat, true) from by unfold getB; rw [if_pos hE]] at GT
    obtain ⟨k, rfl, hk⟩ := hasE_nat hE
    rw [Int.toNat_natCast] at GT
    have RS := Kept.mk (refund_some (who := who) (clock := clock) hk)
    obtain ⟨es, ed, ea, en, eu, et, eh, ec, hev⟩ : ∃ es ed ea en eu et eh ec, atE b.l k = ⟨es, ed, ea, en, eu, et, eh, ec⟩ := ⟨_, _, _, _, _, _, _, _, rfl⟩
    rw [hev] at GT RS
    dsimp only at RS
    have HK := Kept.mk hk
    clear hE hev hk
    by_cases hw : es = who
    · subst hw
      by_cases hs : et = 0
      · subst hs
        by_cases hd : clock < eu
        · have RF : Kept (refundB b es k clock = (11, b)) := ⟨by rw [RS.out, if_neg (fun e => e rfl), if_neg (fun e => e rfl), if_pos (.inl hd)]⟩
          go_enter Try.func16, Try.ntmps16
          go_wp2_with fail
          refine GT.out.mono ?_
          rintro e w1 ⟨hx, b1⟩
          replace hx : e = .returned (.tuple #[.agg #[.int .i64 es, .int .i64 ed, .int .i64 ea, .int .i64 en, .int .i64 eu, .int .i64 0, .string (strOfNums eh), .string (strOfNums ec)], .bool true]) := hx
          subst hx
          have B1 := Kept.mk b1
          clear b1 GT
          go_wp2_with (go_at_call 30; (with_reducible refine (TI.out _).mono ?_); rintro e w' ⟨rfl, rfl⟩)
          go_ret
          rw [RF.out]
          have b2 := B1.out.alloc B1.out.size (.cells #[.int .i64 es, .int .i64 ed, .int .i64 ea, .int .i64 en, .int .i64 eu, .int .i64 0, .string (strOfNums eh), .string (strOfNums ec)] 34)
          exact ⟨rfl, _, ⟨t, G, v, P0.out.below b2, rfl⟩, fp_below b2⟩
        · cases ht : tickB clock with
          | false =>
            rw [ht] at TI
            have RF : Kept (refundB b es k clock = (11, b)) := ⟨by rw [RS.out, if_neg (fun e => e rfl), if_neg (fun e => e rfl), if_pos (.inr ht)]⟩
            go_enter Try.func16, Try.ntmps16
            go_wp2_with fail
            refine GT.out.mono ?_
            rintro e w1 ⟨hx, b1⟩
            replace hx : e = .returned (.tuple #[.agg #[.int .i64 es, .int .i64 ed, .int .i64 ea, .int .i64 en, .int .i64 eu, .int .i64 0, .string (strOfNums eh), .string (strOfNums ec)], .bool true]) := hx
            subst hx
            have B1 := Kept.mk b1
            clear b1 GT
            go_wp2_with (go_at_call 30; (with_reducible refine (TI.out _).mono ?_); rintro e w' ⟨rfl, rfl⟩)
            go_ret
            rw [RF.out]
            have b2 := B1.out.alloc B1.out.size (.cells #[.int .i64 es, .int .i64 ed, .int .i64 ea, .int .i64 en, .int .i64 eu, .int .i64 0, .string (strOfNums eh), .string (strOfNums ec)] 34)
            exact ⟨rfl, _, ⟨t, G, v, P0.out.below b2, rfl⟩, fp_below b2⟩
          | true =>
            rw [ht] at TI
            have RF : Kept (refundB b es k clock = payB b es k ⟨es, ed, ea, en, eu, 2, eh, ec⟩) := ⟨by rw [RS.out, if_neg (fun e => e rfl), if_neg (fun e => e rfl), if_neg (fun e => e.elim hd (by rw [ht]; simp))]; rfl⟩
            rw [RF.out]
            clear ht RS RF
            go_enter Try.func16, Try.ntmps16
            go_wp2_with fail
            refine GT.out.mono ?_
            rintro e w1 ⟨hx, b1⟩
            replace hx : e = .returned (.tuple #[.agg #[.int .i64 es, .int .i64 ed, .int .i64 ea, .int .i64 en, .int .i64 eu, .int .i64 0, .string (strOfNums eh), .string (strOfNums ec)], .bool true]) := hx
            subst hx
            have B1 := Kept.mk b1
            clear b1 GT
            go_upto_region 10 with (go_at_call 30; (with_reducible refine (TI.out _).mono ?_); rintro e w' ⟨rfl, rfl⟩)
            have nb : Blk (w1.alloc (.cells #[.int .i64 es, .int .i64 ed, .int .i64 ea, .int .i64 en, .int .i64 eu, .int .i64 0, .string (strOfNums eh), .string (strOfNums ec)] 34)) w1.heap.size 34 #[.int .i64 es, .int .i64 ed, .int .i64 ea, .int .i64 en, .int .i64 eu, .int .i64 0, .string (strOfNums eh), .string (strOfNums ec)] := Blk.new _ _ _
            have B2 := Kept.mk (B1.out.alloc B1.out.size (.cells #[.int .i64 es, .int .i64 ed, .int .i64 ea, .int .i64 en, .int .i64 eu, .int .i64 0, .string (strOfNums eh), .string (strOfNums ec)] 34))
            have B1s := B1.out.size
            obtain ⟨N, hN⟩ : ∃ N, w1.heap.size = N := ⟨_, rfl⟩
            rw [hN] at nb ⊢
            have NB := Kept.mk nb
            clear nb B1
            generalize (w1.alloc (.cells #[.int .i64 es, .int .i64 ed, .int .i64 ea, .int .i64 en, .int .i64 eu, .int .i64 0, .string (strOfNums eh), .string (strOfNums ec)] 34)) = w2 at *
            have n5 : w2.cell? ⟨N, 5, none⟩ = some (.int .i64 0) := NB.out.cell 5
            have f5 := NB.out.frozen 5
            go_upto_region 11 with fail
            have nb : Blk (w2.setCell ⟨N, 5, none⟩ (.int .i64 2)) N 34 #[.int .i64 es, .int .i64 ed, .int .i64 ea, .int .i64 en, .int .i64 eu, .int .i64 2, .string (strOfNums eh), .string (strOfNums ec)] := NB.out.set_ 5 (.int .i64 2)
            have b3 : Below w.heap.size w (w2.setCell ⟨N, 5, none⟩ (.int .i64 2)) := B2.out.setCell (by rw [← hN]; exact B1s) _
            clear n5 f5 NB B2 hN B1s
            generalize (w2.setCell ⟨N, 5, none⟩ (.int .i64 2)) = w3 at *
            have n0 : w3.cell? ⟨N, 0, none⟩ = some (.int .i64 es) := nb.cell 0
            have n1 : w3.cell? ⟨N, 1, none⟩ = some (.int .i64 ed) := nb.cell 1
            have n2 : w3.cell? ⟨N, 2, none⟩ = some (.int .i64 ea) := nb.cell 2
            have n3 : w3.cell? ⟨N, 3, none⟩ = some (.int .i64 en) := nb.cell 3
            have n4 : w3.cell? ⟨N, 4, none⟩ = some (.int .i64 eu) := nb.cell 4
            have n5 : w3.cell? ⟨N, 5, none⟩ = some (.int .i64 2) := nb.cell 5
            have n6 : w3.cell? ⟨N, 6, none⟩ = some (.string (strOfNums eh)) := nb.cell 6
            have n7 : w3.cell? ⟨N, 7, none⟩ = some (.string (strOfNums ec)) := nb.cell 7
            have FB := Kept.mk (fp_below (F := fk t x G v) b3)
            have PY := Kept.mk (pay_any (P0.out.below b3) es k HK.out ⟨es, ed, ea, en, eu, 2, eh, ec⟩)
            unfold evV at PY
            dsimp only at PY
            clear b3 nb P0
            go_wp2_with fail
            refine PY.out.mono ?_
            rintro e w4 ⟨rfl, F', hc, fp⟩
            have HC := Kept.mk hc
            have FF := Kept.mk (FB.out.trans fp)
            clear hc fp PY
            go_wp2
            go_ret
            exact ⟨rfl, F', HC.out, FF.out⟩
      · have hs' : (et == 0) = false := beq_eq_false_iff_ne.2 hs
        have RF : Kept (refundB b es k clock = (9, b)) := ⟨by rw [RS.out, if_neg (fun e => e rfl), if_pos hs]⟩
        go_enter Try.func16, Try.ntmps16
        go_wp2_with fail
        refine GT.out.mono ?_
        rintro e w1 ⟨hx, b1⟩
        replace hx : e = .returned (.tuple #[.agg #[.int .i64 es, .int .i64 ed, .int .i64 ea, .int .i64 en, .int .i64 eu, .int .i64 et, .string (strOfNums eh), .string (strOfNums ec)], .bool true]) := hx
        subst hx
        have B1 := Kept.mk b1
        clear b1 GT
        go_wp2_with (go_at_call 30; (with_reducible refine (TI.out _).mono ?_); rintro e w' ⟨rfl, rfl⟩)
        go_ret
        rw [RF.out]
        have b2 := B1.out.alloc B1.out.size (.cells #[.int .i64 es, .int .i64 ed, .int .i64 ea, .int .i64 en, .int .i64 eu, .int .i64 et, .string (strOfNums eh), .string (strOfNums ec)] 34)
        exact ⟨rfl, _, ⟨t, G, v, P0.out.below b2, rfl⟩, fp_below b2⟩
    · have hw' : (who == es) = false := beq_eq_false_iff_ne.2 (fun e => hw e.symm)
      have RF : Kept (refundB b who k clock = (14, b)) := ⟨by rw [RS.out, if_pos hw]⟩
      go_enter Try.func16, Try.ntmps16
      go_wp2_with fail
      refine GT.out.mono ?_
      rintro e w1 ⟨hx, b1⟩
      replace hx : e = .returned (.tuple #[.agg #[.int .i64 es, .int .i64 ed, .int .i64 ea, .int .i64 en, .int .i64 eu, .int .i64 et, .string (strOfNums eh), .string (strOfNums ec)], .bool true]) := hx
      subst hx
      have B1 := Kept.mk b1
      clear b1 GT
      go_wp2_with (go_at_call 30; (with_reducible refine (TI.out _).mono ?_); rintro e w' ⟨rfl, rfl⟩)
      go_ret
      rw [RF.out]
      have b2 := B1.out.alloc B1.out.size (.cells #[.int .i64 es, .int .i64 ed, .int .i64 ea, .int .i64 en, .int .i64 eu, .int .i64 et, .string (strOfNums eh), .string (strOfNums ec)] 34)
      exact ⟨rfl, _, ⟨t, G, v, P0.out.below b2, rfl⟩, fp_below b2⟩
end
end Go.Proofs.Ytcebjpfmpagfjaa.Escrow
