/-
  The law ShaTable, walked.
-/
import Derived.Test.YtmnkllmlimpjjaaShaTells
namespace Go.Proofs.Ytmnkllmlimpjjaa.Sha
open Go.RowKit

theorem Tab.bar {w w' : World} {t : Nat} {l : List Nat} (h : Tab w t) (b : Bar l w w') (hl : t ∉ l) : Tab w' t := by
  rcases h with h | h
  · exact .inl (Blk.bar h b hl)
  · exact .inr (Blk.bar h b hl)
theorem Hs.lt {w : World} {h t : Nat} {text : List Int} (x : Hs w h t text) : h < w.heap.size := by
  obtain ⟨_, _, _, r, _, _, _, k⟩ := x
  exact k.lt
theorem Hs.bar {w w' : World} {h t : Nat} {text : List Int} {l : List Nat} (x : Hs w h t text) (b : Bar l w w') (hh : h ∉ l) (ht : t ∉ l) : Hs w' h t text := by
  obtain ⟨h1, h2, h3, r, h4, h5, h6, k⟩ := x
  exact ⟨h1, Blk.bar h2 b ht, h3, r, h4, h5, h6, k.bar b hh⟩
theorem Hs.other {w w' : World} {h t : Nat} {text : List Int} (x : Hs w h t text) (b : Bar [t] w w') (m : Made w' t) : Hs w' h t text := by
  obtain ⟨h1, h2, h3, r, h4, h5, h6, k⟩ := x
  exact ⟨h1, m, h3, r, h4, h5, h6, k.bar b (by simpa using h1)⟩
theorem Rd.sl2 {w w' : World} {A : Option Addr} {n h : Nat} {xs : List Int} (r : Rd w A n xs) (b : Below w.heap.size w w') (hh : w.heap.size ≤ h) : Sl w' A n xs h := by
  obtain ⟨h1, h2, h3⟩ := r
  refine ⟨h1, h2, ?_⟩
  by_cases h0 : n = 0
  · exact .inl h0
  · obtain ⟨bb, o, rfl, hc⟩ := h3.resolve_left h0
    have hlt : bb < w.heap.size := World.block_lt_of_cell? _ _ (hc 0 (by omega))
    exact .inr ⟨bb, o, rfl, by omega, fun i hi => by rw [← hc i hi]; exact World.cell?_of_block (w := w) (b.block bb hlt)⟩
theorem own_rd {w : World} {base : Nat} {e : TypeId} {v : Value} {n : Nat} {xs : List Int} (h : w.ownsRow base e 1 v n (ints .u8 xs)) (hb : Bytes xs) : ∃ A cap, v = .slice A n cap ∧ n ≤ cap ∧ cap ≤ 9223372036854775807 ∧ Rd w A n xs := by
  have hl : xs.length = n := by have := h.1; rw [ints_len] at this; omega
  rcases h.2 with ⟨rfl, rfl⟩ | ⟨g, cap, cur, rfl, hg, _, h1, h2, _⟩
  · obtain rfl := List.eq_nil_of_length_eq_zero hl
    exact ⟨none, 0, rfl, by omega, by omega, Rd.nil_⟩
  · unfold maxLen at h2
    refine ⟨some ⟨g, 0, none⟩, cap, rfl, h1, by omega, hl, hb, .inr ⟨g, 0, rfl, fun i hi => ?_⟩⟩
    rw [Nat.zero_add]
    exact own_cell h i hi

theorem wpList_unguard {P : Program} {ops : Array Oper} {Q : Exit → Act → World → Prop} {rest : List Oper} {a : Act} {w : World} {d : Option Nat} {op : Op} {ty : TypeId} {p : String} {e : Array Edge} {g : Nat × Bool}
    (hw : Region.wanted { dst := d, op := op, type := ty, pos := p, after := e, guard := some g } (yielded ops a.tmps) = true)
    (h : wpList P ops Q ({ dst := d, op := op, type := ty, pos := p, after := e, guard := none } :: rest) a w) : wpList P ops Q ({ dst := d, op := op, type := ty, pos := p, after := e, guard := some g } :: rest) a w := by
  unfold wpList at h ⊢
  rw [if_pos hw]
  rw [if_pos (by rfl)] at h
  exact h

theorem e63 : wordI 63 = 3329325298 := by decide +kernel
theorem e64 : wordI 64 = 0 := by decide +kernel
theorem em1 : wordI (-1) = 0 := by decide +kernel
theorem e7 : startI 7 = 1541459225 := by decide +kernel
theorem e8 : startI 8 = 0 := by decide +kernel

set_option maxRecDepth 100000 in
set_option maxHeartbeats 2000000 in
theorem table_walk (A Bb : Option Addr) (na ca nb cb : Nat) (xa xb : List Int) (asked : Bool) (w : World) (hra : Rd w A na xa) (hrb : Rd w Bb nb xb) (hca : na ≤ ca) (hma : ca ≤ 9223372036854775807) (hcb : nb ≤ cb) (hmb : cb ≤ 9223372036854775807) :
    Calls Try.prog 5 #[.slice A na ca, .slice Bb nb cb, .bool asked] w fun e w' => e = .returned (.bool true) ∧ Below w.heap.size w w' := by
  have LA := Kept.mk hra.1; have LB := Kept.mk hrb.1
  have RA := Kept.mk hra; have RB := Kept.mk hrb
  clear hra hrb
  by_cases ha : 1000 < na
  · go_enter Try.func5, Try.ntmps5
    go_wp2_with fail
    refine (first_any _).mono ?_
    rintro e w1 ⟨rfl, b1⟩
    go_wp2_with fail
    refine (newtable_any w1).mono ?_
    rintro e w2 ⟨rfl, rfl⟩
    have b2 := b1.alloc b1.size (.cells (tbl (.int .u32 0) (.int .i32 0) (.int .u32 0) 0 0) 58)
    generalize w1.alloc (.cells (tbl (.int .u32 0) (.int .i32 0) (.int .u32 0) 0 0) 58) = w2 at *
    clear b1
    generalize w1.heap.size = N
    go_wp2_with fail
    refine (newtable_any w2).mono ?_
    rintro e w3 ⟨rfl, rfl⟩
    have b3 := b2.alloc b2.size (.cells (tbl (.int .u32 0) (.int .i32 0) (.int .u32 0) 0 0) 58)
    generalize w2.alloc (.cells (tbl (.int .u32 0) (.int .i32 0) (.int .u32 0) 0 0) 58) = w3 at *
    clear b2
    generalize w2.heap.size = N
    go_wp2_with fail
    refine (first_any _).mono ?_
    rintro e w4 ⟨rfl, b4⟩
    have B4 := Kept.mk (b3.trans (b4.mono b3.size))
    clear b3 b4
    go_wp2
    go_ret
    exact ⟨rfl, B4.out⟩
  by_cases hb : 1000 < nb
  · go_enter Try.func5, Try.ntmps5
    go_wp2_with fail
    refine (first_any _).mono ?_
    rintro e w1 ⟨rfl, b1⟩
    go_wp2_with fail
    refine (newtable_any w1).mono ?_
    rintro e w2 ⟨rfl, rfl⟩
    have b2 := b1.alloc b1.size (.cells (tbl (.int .u32 0) (.int .i32 0) (.int .u32 0) 0 0) 58)
    generalize w1.alloc (.cells (tbl (.int .u32 0) (.int .i32 0) (.int .u32 0) 0 0) 58) = w2 at *
    clear b1
    generalize w1.heap.size = N
    go_wp2_with fail
    refine (newtable_any w2).mono ?_
    rintro e w3 ⟨rfl, rfl⟩
    have b3 := b2.alloc b2.size (.cells (tbl (.int .u32 0) (.int .i32 0) (.int .u32 0) 0 0) 58)
    generalize w2.alloc (.cells (tbl (.int .u32 0) (.int .i32 0) (.int .u32 0) 0 0) 58) = w3 at *
    clear b2
    generalize w2.heap.size = N
    go_wp2_with fail
    refine (first_any _).mono ?_
    rintro e w4 ⟨rfl, b4⟩
    have B4 := Kept.mk (b3.trans (b4.mono b3.size))
    clear b3 b4
    go_wp2
    go_ret
    exact ⟨rfl, B4.out⟩
  cases asked
  · go_enter Try.func5, Try.ntmps5
    go_wp2_with fail
    refine (first_any _).mono ?_
    rintro e w1 ⟨rfl, b1⟩
    go_wp2_with fail
    refine (newtable_any w1).mono ?_
    rintro e w2 ⟨rfl, rfl⟩
    obtain ⟨S, hs⟩ : ∃ S, w1.heap.size = S := ⟨_, rfl⟩
    have ts : Tab (w1.alloc (.cells (tbl (.int .u32 0) (.int .i32 0) (.int .u32 0) 0 0) 58)) S := .inl (Blk.new_at _ _ _ S hs.symm)
    have b2 := b1.alloc b1.size (.cells (tbl (.int .u32 0) (.int .i32 0) (.int .u32 0) 0 0) 58)
    have hS : w.heap.size ≤ S := hs ▸ b1.size
    rw [hs]
    generalize w1.alloc (.cells (tbl (.int .u32 0) (.int .i32 0) (.int .u32 0) 0 0) 58) = w2 at *
    clear b1 hs
    have TS := Kept.mk ts; have B2 := Kept.mk b2
    clear ts b2
    go_wp2_with fail
    refine (newtable_any w2).mono ?_
    rintro e w3 ⟨rfl, rfl⟩
    obtain ⟨T, hs⟩ : ∃ T, w2.heap.size = T := ⟨_, rfl⟩
    have tt : Tab (w2.alloc (.cells (tbl (.int .u32 0) (.int .i32 0) (.int .u32 0) 0 0) 58)) T := .inl (Blk.new_at _ _ _ T hs.symm)
    have ts : Tab (w2.alloc (.cells (tbl (.int .u32 0) (.int .i32 0) (.int .u32 0) 0 0) 58)) S := TS.out.bar ((Bar.refl [] _).alloc _) (by simp)
    have b3 := B2.out.alloc B2.out.size (.cells (tbl (.int .u32 0) (.int .i32 0) (.int .u32 0) 0 0) 58)
    have hT : w.heap.size ≤ T := hs ▸ B2.out.size
    have hST : T ≠ S := by have := TS.out.lt; omega
    rw [hs]
    generalize w2.alloc (.cells (tbl (.int .u32 0) (.int .i32 0) (.int .u32 0) 0 0) 58) = w3 at *
    clear B2 hs TS
    have TS := Kept.mk ts; have TT := Kept.mk tt; have B := Kept.mk b3
    clear ts tt b3
    have ts := TS.out
    go_wp2_with fail
    refine (new_any S w3 ts).mono ?_
    rintro e w10 ⟨G, rfl, hG, hsG, b⟩
    have hGT : T ≠ G := by have := TT.out.lt; omega
    have hGB : w.heap.size ≤ G := by have := B.out.size; omega
    have hGS : G ≠ S := hsG.1
    replace TT := Kept.mk (TT.out.bar b (by simpa using hST))
    replace B := Kept.mk (B.out.trans (b.below B.out.size (by simpa using hS)))
    have HG := Kept.mk hsG
    clear b hsG TS ts
    have ts : Tab w10 S := .inr HG.out.2.1
    go_wp2_with fail
    refine (new_any S w10 ts).mono ?_
    rintro e w11 ⟨H, rfl, hH, hsH, b⟩
    have hHT : T ≠ H := by have := TT.out.lt; omega
    have hHB : w.heap.size ≤ H := by have := B.out.size; omega
    have hHS : H ≠ S := hsH.1
    have hHG : H ≠ G := by have := HG.out.lt; omega
    replace TT := Kept.mk (TT.out.bar b (by simpa using hST))
    replace B := Kept.mk (B.out.trans (b.below B.out.size (by simpa using hS)))
    replace HG := Kept.mk (HG.out.other b hsH.2.1)
    have HH := Kept.mk hsH
    clear b hsH ts
    go_wp2_with fail
    refine (write_any G S [] xa A na ca w11 HG.out (RA.out.sl2 B.out hGB) hca hma (by simp; omega)).mono ?_
    rintro e w12 ⟨rfl, hsG, b⟩
    replace TT := Kept.mk (TT.out.bar b (by simpa using hGT))
    replace B := Kept.mk (B.out.trans (b.below B.out.size (by simpa using hGB)))
    replace HH := Kept.mk (HH.out.bar b (by simpa using hHG) (by simpa using hGS.symm))
    replace HG := Kept.mk hsG
    clear b hsG
    go_wp2_with fail
    refine (write_any H S [] xb Bb nb cb w12 HH.out (RB.out.sl2 B.out hHB) hcb hmb (by simp; omega)).mono ?_
    rintro e w13 ⟨rfl, hsH, b⟩
    replace TT := Kept.mk (TT.out.bar b (by simpa using hHT))
    replace B := Kept.mk (B.out.trans (b.below B.out.size (by simpa using hHB)))
    replace HG := Kept.mk (HG.out.bar b (by simpa using hHG.symm) (by simpa using hHS.symm))
    replace HH := Kept.mk hsH
    clear b hsH
    go_wp2_with fail
    refine (write_any G S ([] ++ xa) xb Bb nb cb w13 HG.out (RB.out.sl2 B.out hGB) hcb hmb (by simp only [List.nil_append]; have := LA.out; omega)).mono ?_
    rintro e w14 ⟨rfl, hsG, b⟩
    replace TT := Kept.mk (TT.out.bar b (by simpa using hGT))
    replace B := Kept.mk (B.out.trans (b.below B.out.size (by simpa using hGB)))
    replace HH := Kept.mk (HH.out.bar b (by simpa using hHG) (by simpa using hGS.symm))
    rw [List.nil_append] at hsG
    replace HG := Kept.mk hsG
    clear b hsG
    go_wp2_with fail
    refine (sum_any G S (xa ++ xb) w14 HG.out (by rw [List.length_append]; have := LA.out; have := LB.out; omega)).mono ?_
    rintro e w15 ⟨M1, rfl, hM1, k1, b⟩
    have h1T : T ≠ M1 := by have := TT.out.lt; omega
    replace TT := Kept.mk (TT.out.below b TT.out.lt)
    replace HH := Kept.mk (HH.out.bar (barOf b []) (by simp) (by simp))
    replace B := Kept.mk (B.out.trans (b.mono B.out.size))
    have K1 := Kept.mk k1
    clear b k1 HG
    go_wp2_with fail
    refine (sum_any H S ([] ++ xb) w15 HH.out (by rw [List.nil_append]; have := LB.out; omega)).mono ?_
    rintro e w16 ⟨M2, rfl, hM2, k2, b⟩
    rw [List.nil_append] at k2
    have h2T : T ≠ M2 := by have := TT.out.lt; omega
    replace TT := Kept.mk (TT.out.below b TT.out.lt)
    replace B := Kept.mk (B.out.trans (b.mono B.out.size))
    replace K1 := Kept.mk (K1.out.below b K1.out.lt)
    have K2 := Kept.mk k2
    clear b k2 HH
    go_wp2_with fail
    refine (first_any w16).mono ?_
    rintro e w17 ⟨rfl, b⟩
    replace TT := Kept.mk (TT.out.below b TT.out.lt)
    replace B := Kept.mk (B.out.trans (b.mono B.out.size))
    replace K1 := Kept.mk (K1.out.below b K1.out.lt)
    replace K2 := Kept.mk (K2.out.below b K2.out.lt)
    clear b
    go_wp2_with fail
    refine (one_any T Bb nb cb xb w17 TT.out (RB.out.below B.out) hcb hmb (by omega)).mono ?_
    rintro e w18 ⟨M3, rfl, -, k3, m, b⟩
    replace TT : Kept (Tab w18 T) := ⟨.inr m⟩
    replace B := Kept.mk (B.out.trans (b.below B.out.size (by simpa using hT)))
    replace K1 := Kept.mk (K1.out.bar b (by simpa using h1T.symm))
    replace K2 := Kept.mk (K2.out.bar b (by simpa using h2T.symm))
    have K3 := Kept.mk k3
    clear b k3 m
    go_wp2_with fail
    refine (bytes_same _ _ _ _ _ _ (sha xb) w18 (Rd.blk K2.out (sha_bytes _) (sha_len _)) (Rd.blk K3.out (sha_bytes _) (sha_len _))).mono ?_
    rintro e w19 ⟨rfl, rfl⟩
    clear K2 K3
    go_wp2_with fail
    refine (copy_any A na ca xa w18 (RA.out.below B.out) (by omega)).mono ?_
    rintro e w19 ⟨v, rfl, own, b⟩
    have hT18 := TT.out.lt
    have h118 := K1.out.lt
    replace TT := Kept.mk (TT.out.below b TT.out.lt)
    have hsz := b.size
    have b18 := B.out.size
    replace K1 := Kept.mk (K1.out.below b K1.out.lt)
    replace B := Kept.mk (B.out.trans (b.mono B.out.size))
    have OW := Kept.mk own
    clear b own
    go_wp2_with ((with_reducible refine sel 105 ?_); refine wpList_unguard (by rfl) ?_; refine wpList_append_rd rfl (.tmp 103) (.tmp 104) 22 rfl w18.heap.size 5 Try.underlying22 info_u8 v na _ rfl OW.out Bb nb cb xb rfl (RB.out.below B.out) (by omega) hsz ?_; intro v7 w20 own7 hg7; have B20 := Kept.mk (own_below OW.out hg7 hsz); clear hg7)
    replace TT := Kept.mk (TT.out.below B20.out hT18)
    replace K1 := Kept.mk (K1.out.below B20.out h118)
    replace B := Kept.mk (B.out.trans (B20.out.mono b18))
    rw [← ints_append] at own7
    obtain ⟨A7, c7, rfl, hc7, hm7, r7⟩ := own_rd own7.out (by intro x hx; rcases List.mem_append.1 hx with h | h; exact RA.out.2.1 x h; exact RB.out.2.1 x h)
    refine (one_any T A7 (na + nb) c7 (xa ++ xb) w20 TT.out r7 hc7 hm7 (by omega)).mono ?_
    rintro e w21 ⟨M3, rfl, -, k3, m, b⟩
    replace B := Kept.mk (B.out.trans (b.below B.out.size (by simpa using hT)))
    replace K1 := Kept.mk (K1.out.bar b (by simpa using h1T.symm))
    have K3 := Kept.mk k3
    clear b k3 m
    go_wp2_with fail
    refine (bytes_same _ _ _ _ _ _ (sha (xa ++ xb)) w21 (Rd.blk K1.out (sha_bytes _) (sha_len _)) (Rd.blk K3.out (sha_bytes _) (sha_len _))).mono ?_
    rintro e w22 ⟨rfl, rfl⟩
    go_wp2
    go_ret
    exact ⟨rfl, B.out⟩
  · go_enter Try.func5, Try.ntmps5
    go_wp2_with fail
    refine (first_any _).mono ?_
    rintro e w1 ⟨rfl, b1⟩
    go_wp2_with fail
    refine (newtable_any w1).mono ?_
    rintro e w2 ⟨rfl, rfl⟩
    obtain ⟨S, hs⟩ : ∃ S, w1.heap.size = S := ⟨_, rfl⟩
    have ts : Tab (w1.alloc (.cells (tbl (.int .u32 0) (.int .i32 0) (.int .u32 0) 0 0) 58)) S := .inl (Blk.new_at _ _ _ S hs.symm)
    have b2 := b1.alloc b1.size (.cells (tbl (.int .u32 0) (.int .i32 0) (.int .u32 0) 0 0) 58)
    have hS : w.heap.size ≤ S := hs ▸ b1.size
    rw [hs]
    generalize w1.alloc (.cells (tbl (.int .u32 0) (.int .i32 0) (.int .u32 0) 0 0) 58) = w2 at *
    clear b1 hs
    have TS := Kept.mk ts; have B2 := Kept.mk b2
    clear ts b2
    go_wp2_with fail
    refine (newtable_any w2).mono ?_
    rintro e w3 ⟨rfl, rfl⟩
    obtain ⟨T, hs⟩ : ∃ T, w2.heap.size = T := ⟨_, rfl⟩
    have tt : Tab (w2.alloc (.cells (tbl (.int .u32 0) (.int .i32 0) (.int .u32 0) 0 0) 58)) T := .inl (Blk.new_at _ _ _ T hs.symm)
    have ts : Tab (w2.alloc (.cells (tbl (.int .u32 0) (.int .i32 0) (.int .u32 0) 0 0) 58)) S := TS.out.bar ((Bar.refl [] _).alloc _) (by simp)
    have b3 := B2.out.alloc B2.out.size (.cells (tbl (.int .u32 0) (.int .i32 0) (.int .u32 0) 0 0) 58)
    have hT : w.heap.size ≤ T := hs ▸ B2.out.size
    have hST : T ≠ S := by have := TS.out.lt; omega
    rw [hs]
    generalize w2.alloc (.cells (tbl (.int .u32 0) (.int .i32 0) (.int .u32 0) 0 0) 58) = w3 at *
    clear B2 hs TS
    have TS := Kept.mk ts; have TT := Kept.mk tt; have B := Kept.mk b3
    clear ts tt b3
    have ts := TS.out
    have c63 : Kept (∀ w, Tab w S → Calls Try.prog 11 #[.pointer (some ⟨S, 0, none⟩), .int .i64 63] w fun e w' => e = .returned (.int .u32 3329325298) ∧ Tab w' S ∧ Bar [S] w w') := ⟨fun w h => e63 ▸ word_any S 63 w h⟩
    have c64 : Kept (∀ w, Tab w S → Calls Try.prog 11 #[.pointer (some ⟨S, 0, none⟩), .int .i64 64] w fun e w' => e = .returned (.int .u32 0) ∧ Tab w' S ∧ Bar [S] w w') := ⟨fun w h => e64 ▸ word_any S 64 w h⟩
    have cm1 : Kept (∀ w, Tab w S → Calls Try.prog 11 #[.pointer (some ⟨S, 0, none⟩), .int .i64 (-1)] w fun e w' => e = .returned (.int .u32 0) ∧ Tab w' S ∧ Bar [S] w w') := ⟨fun w h => em1 ▸ word_any S (-1) w h⟩
    have d7 : Kept (∀ w, Tab w S → Calls Try.prog 13 #[.pointer (some ⟨S, 0, none⟩), .int .i64 7] w fun e w' => e = .returned (.int .u32 1541459225) ∧ Tab w' S ∧ Bar [S] w w') := ⟨fun w h => e7 ▸ start_any S 7 w h⟩
    have d8 : Kept (∀ w, Tab w S → Calls Try.prog 13 #[.pointer (some ⟨S, 0, none⟩), .int .i64 8] w fun e w' => e = .returned (.int .u32 0) ∧ Tab w' S ∧ Bar [S] w w') := ⟨fun w h => e8 ▸ start_any S 8 w h⟩
    go_wp2_with fail
    refine (c63.out w3 ts).mono ?_
    rintro e w4 ⟨rfl, ts', b⟩
    replace TT := Kept.mk (TT.out.bar b (by simpa using hST))
    replace B := Kept.mk (B.out.trans (b.below B.out.size (by simpa using hS)))
    replace TS := Kept.mk ts'
    have ts := TS.out
    clear b ts'
    go_wp2_with fail
    refine (c64.out w4 ts).mono ?_
    rintro e w5 ⟨rfl, ts', b⟩
    replace TT := Kept.mk (TT.out.bar b (by simpa using hST))
    replace B := Kept.mk (B.out.trans (b.below B.out.size (by simpa using hS)))
    replace TS := Kept.mk ts'
    have ts := TS.out
    clear b ts'
    go_wp2_with fail
    refine (cm1.out w5 ts).mono ?_
    rintro e w6 ⟨rfl, ts', b⟩
    replace TT := Kept.mk (TT.out.bar b (by simpa using hST))
    replace B := Kept.mk (B.out.trans (b.below B.out.size (by simpa using hS)))
    replace TS := Kept.mk ts'
    have ts := TS.out
    clear b ts'
    go_wp2_with fail
    refine (d7.out w6 ts).mono ?_
    rintro e w7 ⟨rfl, ts', b⟩
    replace TT := Kept.mk (TT.out.bar b (by simpa using hST))
    replace B := Kept.mk (B.out.trans (b.below B.out.size (by simpa using hS)))
    replace TS := Kept.mk ts'
    have ts := TS.out
    clear b ts'
    go_wp2_with fail
    refine (d8.out w7 ts).mono ?_
    rintro e w8 ⟨rfl, ts', b⟩
    replace TT := Kept.mk (TT.out.bar b (by simpa using hST))
    replace B := Kept.mk (B.out.trans (b.below B.out.size (by simpa using hS)))
    replace TS := Kept.mk ts'
    have ts := TS.out
    clear b ts'
    go_wp2_with fail
    refine (new_any S w8 ts).mono ?_
    rintro e w10 ⟨G, rfl, hG, hsG, b⟩
    have hGT : T ≠ G := by have := TT.out.lt; omega
    have hGB : w.heap.size ≤ G := by have := B.out.size; omega
    have hGS : G ≠ S := hsG.1
    replace TT := Kept.mk (TT.out.bar b (by simpa using hST))
    replace B := Kept.mk (B.out.trans (b.below B.out.size (by simpa using hS)))
    have HG := Kept.mk hsG
    clear b hsG TS ts
    have ts : Tab w10 S := .inr HG.out.2.1
    go_wp2_with fail
    refine (new_any S w10 ts).mono ?_
    rintro e w11 ⟨H, rfl, hH, hsH, b⟩
    have hHT : T ≠ H := by have := TT.out.lt; omega
    have hHB : w.heap.size ≤ H := by have := B.out.size; omega
    have hHS : H ≠ S := hsH.1
    have hHG : H ≠ G := by have := HG.out.lt; omega
    replace TT := Kept.mk (TT.out.bar b (by simpa using hST))
    replace B := Kept.mk (B.out.trans (b.below B.out.size (by simpa using hS)))
    replace HG := Kept.mk (HG.out.other b hsH.2.1)
    have HH := Kept.mk hsH
    clear b hsH ts
    go_wp2_with fail
    refine (write_any G S [] xa A na ca w11 HG.out (RA.out.sl2 B.out hGB) hca hma (by simp; omega)).mono ?_
    rintro e w12 ⟨rfl, hsG, b⟩
    replace TT := Kept.mk (TT.out.bar b (by simpa using hGT))
    replace B := Kept.mk (B.out.trans (b.below B.out.size (by simpa using hGB)))
    replace HH := Kept.mk (HH.out.bar b (by simpa using hHG) (by simpa using hGS.symm))
    replace HG := Kept.mk hsG
    clear b hsG
    go_wp2_with fail
    refine (write_any H S [] xb Bb nb cb w12 HH.out (RB.out.sl2 B.out hHB) hcb hmb (by simp; omega)).mono ?_
    rintro e w13 ⟨rfl, hsH, b⟩
    replace TT := Kept.mk (TT.out.bar b (by simpa using hHT))
    replace B := Kept.mk (B.out.trans (b.below B.out.size (by simpa using hHB)))
    replace HG := Kept.mk (HG.out.bar b (by simpa using hHG.symm) (by simpa using hHS.symm))
    replace HH := Kept.mk hsH
    clear b hsH
    go_wp2_with fail
    refine (write_any G S ([] ++ xa) xb Bb nb cb w13 HG.out (RB.out.sl2 B.out hGB) hcb hmb (by simp only [List.nil_append]; have := LA.out; omega)).mono ?_
    rintro e w14 ⟨rfl, hsG, b⟩
    replace TT := Kept.mk (TT.out.bar b (by simpa using hGT))
    replace B := Kept.mk (B.out.trans (b.below B.out.size (by simpa using hGB)))
    replace HH := Kept.mk (HH.out.bar b (by simpa using hHG) (by simpa using hGS.symm))
    rw [List.nil_append] at hsG
    replace HG := Kept.mk hsG
    clear b hsG
    go_wp2_with fail
    refine (sum_any G S (xa ++ xb) w14 HG.out (by rw [List.length_append]; have := LA.out; have := LB.out; omega)).mono ?_
    rintro e w15 ⟨M1, rfl, hM1, k1, b⟩
    have h1T : T ≠ M1 := by have := TT.out.lt; omega
    replace TT := Kept.mk (TT.out.below b TT.out.lt)
    replace HH := Kept.mk (HH.out.bar (barOf b []) (by simp) (by simp))
    replace B := Kept.mk (B.out.trans (b.mono B.out.size))
    have K1 := Kept.mk k1
    clear b k1 HG
    go_wp2_with fail
    refine (sum_any H S ([] ++ xb) w15 HH.out (by rw [List.nil_append]; have := LB.out; omega)).mono ?_
    rintro e w16 ⟨M2, rfl, hM2, k2, b⟩
    rw [List.nil_append] at k2
    have h2T : T ≠ M2 := by have := TT.out.lt; omega
    replace TT := Kept.mk (TT.out.below b TT.out.lt)
    replace B := Kept.mk (B.out.trans (b.mono B.out.size))
    replace K1 := Kept.mk (K1.out.below b K1.out.lt)
    have K2 := Kept.mk k2
    clear b k2 HH
    go_wp2_with fail
    refine (first_any w16).mono ?_
    rintro e w17 ⟨rfl, b⟩
    replace TT := Kept.mk (TT.out.below b TT.out.lt)
    replace B := Kept.mk (B.out.trans (b.mono B.out.size))
    replace K1 := Kept.mk (K1.out.below b K1.out.lt)
    replace K2 := Kept.mk (K2.out.below b K2.out.lt)
    clear b
    go_wp2_with fail
    refine (one_any T Bb nb cb xb w17 TT.out (RB.out.below B.out) hcb hmb (by omega)).mono ?_
    rintro e w18 ⟨M3, rfl, -, k3, m, b⟩
    replace TT : Kept (Tab w18 T) := ⟨.inr m⟩
    replace B := Kept.mk (B.out.trans (b.below B.out.size (by simpa using hT)))
    replace K1 := Kept.mk (K1.out.bar b (by simpa using h1T.symm))
    replace K2 := Kept.mk (K2.out.bar b (by simpa using h2T.symm))
    have K3 := Kept.mk k3
    clear b k3 m
    go_wp2_with fail
    refine (bytes_same _ _ _ _ _ _ (sha xb) w18 (Rd.blk K2.out (sha_bytes _) (sha_len _)) (Rd.blk K3.out (sha_bytes _) (sha_len _))).mono ?_
    rintro e w19 ⟨rfl, rfl⟩
    clear K2 K3
    go_wp2_with fail
    refine (copy_any A na ca xa w18 (RA.out.below B.out) (by omega)).mono ?_
    rintro e w19 ⟨v, rfl, own, b⟩
    have hT18 := TT.out.lt
    have h118 := K1.out.lt
    replace TT := Kept.mk (TT.out.below b TT.out.lt)
    have hsz := b.size
    have b18 := B.out.size
    replace K1 := Kept.mk (K1.out.below b K1.out.lt)
    replace B := Kept.mk (B.out.trans (b.mono B.out.size))
    have OW := Kept.mk own
    clear b own
    go_wp2_with ((with_reducible refine sel 105 ?_); refine wpList_unguard (by rfl) ?_; refine wpList_append_rd rfl (.tmp 103) (.tmp 104) 22 rfl w18.heap.size 5 Try.underlying22 info_u8 v na _ rfl OW.out Bb nb cb xb rfl (RB.out.below B.out) (by omega) hsz ?_; intro v7 w20 own7 hg7; have B20 := Kept.mk (own_below OW.out hg7 hsz); clear hg7)
    replace TT := Kept.mk (TT.out.below B20.out hT18)
    replace K1 := Kept.mk (K1.out.below B20.out h118)
    replace B := Kept.mk (B.out.trans (B20.out.mono b18))
    rw [← ints_append] at own7
    obtain ⟨A7, c7, rfl, hc7, hm7, r7⟩ := own_rd own7.out (by intro x hx; rcases List.mem_append.1 hx with h | h; exact RA.out.2.1 x h; exact RB.out.2.1 x h)
    refine (one_any T A7 (na + nb) c7 (xa ++ xb) w20 TT.out r7 hc7 hm7 (by omega)).mono ?_
    rintro e w21 ⟨M3, rfl, -, k3, m, b⟩
    replace B := Kept.mk (B.out.trans (b.below B.out.size (by simpa using hT)))
    replace K1 := Kept.mk (K1.out.bar b (by simpa using h1T.symm))
    have K3 := Kept.mk k3
    clear b k3 m
    go_wp2_with fail
    refine (bytes_same _ _ _ _ _ _ (sha (xa ++ xb)) w21 (Rd.blk K1.out (sha_bytes _) (sha_len _)) (Rd.blk K3.out (sha_bytes _) (sha_len _))).mono ?_
    rintro e w22 ⟨rfl, rfl⟩
    go_wp2
    go_ret
    exact ⟨rfl, B.out⟩

end Go.Proofs.Ytmnkllmlimpjjaa.Sha
