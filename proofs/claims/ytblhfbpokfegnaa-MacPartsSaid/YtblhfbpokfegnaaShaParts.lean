/-
  The law ShaParts, walked.
-/
import Derived.Test.YtblhfbpokfegnaaShaFew
import Derived.Test.YtblhfbpokfegnaaShaFirst
namespace Go.Proofs.Ytblhfbpokfegnaa.Sha
open Go.RowKit

theorem Hs.below {w w' : World} {h t B : Nat} {text : List Int} (x : Hs w h t text) (b : Below B w w') (hh : h < B) (ht : t < B) : Hs w' h t text := by
  obtain ⟨h1, h2, h3, r, h4, h5, h6, k⟩ := x
  exact ⟨h1, Blk.below h2 b ht, h3, r, h4, h5, h6, k.below b hh⟩

set_option maxRecDepth 100000 in
set_option maxHeartbeats 4000000 in
theorem parts_walk (A : Option Addr) (n cap : Nat) (X : Nat → List Int) (w : World) (hr : Rws w A n X) :
    Calls Try.prog 3 #[.slice A n cap] w fun e w' => e = .returned (.bool true) ∧ Below w.heap.size w w' := by
  have HR := Kept.mk hr
  have cf := Kept.mk fun w' h => few_any A n cap X w' h
  clear hr
  cases hfew : fewB n X with
  | false =>
    rw [hfew] at cf
    clear hfew
    go_enter Try.func3, Try.ntmps3
    go_wp2_with fail
    refine (first_any _).mono ?_
    rintro e w1 ⟨rfl, b1⟩
    go_wp2_with fail
    refine (newtable_any w1).mono ?_
    rintro e w2 ⟨rfl, rfl⟩
    have b2 := b1.alloc b1.size (.cells (tbl (.int .u32 0) (.int .i32 0) (.int .u32 0) 0 0) 66)
    generalize w1.alloc (.cells (tbl (.int .u32 0) (.int .i32 0) (.int .u32 0) 0 0) 66) = w2 at *
    clear b1
    have B2 := Kept.mk b2
    clear b2
    generalize w1.heap.size = N
    go_wp2_with fail
    refine (cf.out w2 (HR.out.below B2.out)).mono ?_
    rintro e w3 ⟨rfl, rfl⟩
    go_wp2_with fail
    refine (first_any _).mono ?_
    rintro e w3 ⟨rfl, b3⟩
    have B3 := Kept.mk (B2.out.trans (b3.mono B2.out.size))
    clear B2 b3
    go_wp2
    go_ret
    exact ⟨rfl, B3.out⟩
  | true =>
    have hf := few_yes hfew
    rw [hfew] at cf
    have hn : n ≤ 200 := hf.1
    have HF := Kept.mk hf.2
    have HB := Kept.mk (fun k hk => cat_bytes HR.out k hk)
    clear hfew hf
    go_enter Try.func3, Try.ntmps3
    go_wp2_with fail
    refine (first_any _).mono ?_
    rintro e w1 ⟨rfl, b1⟩
    go_wp2_with fail
    refine (newtable_any w1).mono ?_
    rintro e w2 ⟨rfl, rfl⟩
    obtain ⟨N, hN⟩ : ∃ N, w1.heap.size = N := ⟨_, rfl⟩
    have t2 : Tab (w1.alloc (.cells (tbl (.int .u32 0) (.int .i32 0) (.int .u32 0) 0 0) 66)) N := .inl (Blk.new_at _ _ _ N hN.symm)
    have b2 := b1.alloc b1.size (.cells (tbl (.int .u32 0) (.int .i32 0) (.int .u32 0) 0 0) 66)
    have hlt : w.heap.size ≤ N := hN ▸ b1.size
    rw [hN]
    generalize w1.alloc (.cells (tbl (.int .u32 0) (.int .i32 0) (.int .u32 0) 0 0) 66) = w2 at *
    clear b1 hN
    have T2 := Kept.mk t2; have B2 := Kept.mk b2
    clear t2 b2
    go_wp2_with fail
    refine (cf.out w2 (HR.out.below B2.out)).mono ?_
    rintro e w3 ⟨rfl, rfl⟩
    clear cf
    go_wp2_with fail
    refine (new_any N w2 T2.out).mono ?_
    rintro e w3 ⟨H, rfl, hH, hsH, b⟩
    have hHN : H ≠ N := hsH.1
    have hHB : w.heap.size ≤ H := by have := B2.out.size; omega
    have B := Kept.mk (B2.out.trans (b.below B2.out.size (by simpa using hlt)))
    have hHlt := Hs.lt hsH
    have hNlt : N < w3.heap.size := Blk.lt hsH.2.1
    have HH := Kept.mk hsH
    obtain ⟨K, hK⟩ : ∃ K, w3.heap.size = K := ⟨_, rfl⟩
    have hwK : w.heap.size ≤ K := by rw [← hK]; exact B.out.size
    rw [hK] at hHlt hNlt
    clear b hsH T2 B2
    go_wp2
    go_loopw [5, 6] (fun v i wr => ∃ (k : Nat) (u : Value), k ≤ n ∧ u = v ∧ i = .int .i64 k ∧ K ≤ wr.heap.size ∧ Kept (Hs wr H N (cat X k)) ∧ Kept (wr.ownsRow K 5 1 u (cat X k).length (ints .u8 (cat X k))) ∧ Kept (Below w.heap.size w wr)) (fun _ i _ => n - (intOf i).toNat)
    case atStart => exact ⟨0, .slice none 0 0, by omega, rfl, rfl, by omega, HH, ⟨World.ownsRow_nil _ _ _ _⟩, B⟩
    case round =>
      clear HH B hK
      obtain ⟨k, v, hk, rfl, rfl, hKr, HH, OW, B⟩ := hrel
      by_cases hkn : k < n
      · have hkn' : (k : Int) < n := by omega
        obtain ⟨bb, oo, rfl, hc⟩ := HR.out.resolve_left (by omega)
        obtain ⟨a, l, c, h1, h2, h3, h4⟩ := hc k hkn
        have hbb : bb < w.heap.size := World.block_lt_of_cell? _ _ h1
        have x0 : wr.cell? ⟨bb, oo + k, none⟩ = some (.slice a l c) := (B.out.cell (p := ⟨bb, oo + k, none⟩) hbb).trans h1
        have R4 := Kept.mk h4
        have hl4 : (X k).length = l := h4.1
        have hlen := HF.out (k + 1) (by omega)
        have hlen0 := HF.out k (by omega)
        have hcat : cat X (k + 1) = cat X k ++ X k := rfl
        rw [hcat, List.length_append, hl4] at hlen
        have HL4 := Kept.mk hl4
        have HC := Kept.mk hcat
        clear hc h1 h4 hl4 hcat
        go_wp2_with fail
        refine (write_any H N (cat X k) (X k) a l c wr HH.out (R4.out.sl2 B.out hHB) h2 h3 (by omega)).mono ?_
        rintro e w5 ⟨rfl, hsH, b⟩
        replace HH := Kept.mk hsH
        replace OW := Kept.mk (own_bar OW.out b (by simp; omega))
        replace B := Kept.mk (B.out.trans (b.below B.out.size (by simpa using hHB)))
        have hK5 : K ≤ w5.heap.size := by have := b.size; omega
        have x1 : w5.cell? ⟨bb, oo + k, none⟩ = some (.slice a l c) := by rw [← x0]; exact World.cell?_of_block (w := wr) (b.block bb (by have := B.out.size; have := World.block_lt_of_cell? _ _ x0; exact this) (by simp; omega))
        clear b hsH x0
        rw [← HC.out] at HH
        by_cases h7 : (k : Int) % 7 = 0
        · go_wp2_with ((with_reducible refine sel 43 ?_); refine wpList_append_rd rfl (.tmp 38) (.tmp 42) 29 rfl K 5 Try.underlying29 info_u8 v (cat X k).length _ rfl OW.out a l c (X k) rfl (R4.out.below B.out) (by omega) hK5 ?_; intro v7 w7 o7 g7; have B7 := Kept.mk (own_below OW.out g7 hK5); rw [← ints_append, ← HC.out, show (cat X k).length + l = (cat X (k + 1)).length by rw [HC.out, List.length_append, HL4.out]] at o7; have O7 := Kept.mk o7.out; clear o7 g7)
          have hK7 : K ≤ w7.heap.size := by have := B7.out.size; omega
          replace HH := Kept.mk (HH.out.below B7.out hHlt hNlt)
          replace B := Kept.mk (B.out.trans (B7.out.mono hwK))
          clear B7 OW x1
          obtain ⟨A7, c7, rfl, -, -, r7⟩ := own_rd O7.out (HB.out (k + 1) (by omega))
          have R7 := Kept.mk r7
          clear r7
          refine (sum_any H N (cat X (k + 1)) w7 HH.out (by have := HF.out (k + 1) (by omega); omega)).mono ?_
          rintro e w8 ⟨M1, rfl, hM1, k1, b⟩
          replace HH := Kept.mk (HH.out.bar (barOf b []) (by simp) (by simp))
          replace O7 := Kept.mk (own_bar O7.out (barOf b []) (by simp))
          replace R7 := Kept.mk (R7.out.below b)
          replace B := Kept.mk (B.out.trans (b.mono B.out.size))
          have K1 := Kept.mk k1
          have hK8 : K ≤ w8.heap.size := by have := b.size; omega
          clear b k1
          go_wp2_with fail
          refine (rhash_any A7 (cat X (k + 1)).length c7 (cat X (k + 1)) w8 R7.out (by have := HF.out (k + 1) (by omega); omega)).mono ?_
          rintro e w9 ⟨M2, cap2, rfl, -, -, -, r9, b⟩
          replace HH := Kept.mk (HH.out.bar (barOf b []) (by simp) (by simp))
          replace O7 := Kept.mk (own_bar O7.out (barOf b []) (by simp))
          replace K1 := Kept.mk (K1.out.below b K1.out.lt)
          replace B := Kept.mk (B.out.trans (b.mono B.out.size))
          have R9 := Kept.mk r9
          have hK9 : K ≤ w9.heap.size := by have := b.size; omega
          clear b r9 R7
          go_wp2_with fail
          refine (bytes_same _ _ _ _ _ _ (sha (cat X (k + 1))) w9 (Rd.blk K1.out (sha_bytes _) (sha_len _)) R9.out).mono ?_
          rintro e w10 ⟨rfl, rfl⟩
          go_wp2
          go_roundw
          case rel => exact ⟨k + 1, _, by omega, rfl, by go_num, hK9, HH, O7, B⟩
          case measure => simp [intOf]; omega
        · go_wp2_with ((with_reducible refine sel 43 ?_); refine wpList_append_rd rfl (.tmp 38) (.tmp 42) 29 rfl K 5 Try.underlying29 info_u8 v (cat X k).length _ rfl OW.out a l c (X k) rfl (R4.out.below B.out) (by omega) hK5 ?_; intro v7 w7 o7 g7; have B7 := Kept.mk (own_below OW.out g7 hK5); rw [← ints_append, ← HC.out, show (cat X k).length + l = (cat X (k + 1)).length by rw [HC.out, List.length_append, HL4.out]] at o7; have O7 := Kept.mk o7.out; clear o7 g7)
          have hK7 : K ≤ w7.heap.size := by have := B7.out.size; omega
          replace HH := Kept.mk (HH.out.below B7.out hHlt hNlt)
          replace B := Kept.mk (B.out.trans (B7.out.mono hwK))
          clear B7 OW x1
          go_roundw
          case rel => exact ⟨k + 1, v7, by omega, rfl, by go_num, hK7, HH, O7, B⟩
          case measure => simp [intOf]; omega
      · have hkn' : ¬ (k : Int) < n := by omega
        obtain rfl : k = n := by omega
        have hlen := HF.out k (by omega)
        obtain ⟨A7, c7, rfl, hc7, hm7, r7⟩ := own_rd OW.out (HB.out k (by omega))
        have R7 := Kept.mk r7
        clear r7 OW
        go_wp2_with fail
        refine (first_any _).mono ?_
        rintro e w5 ⟨rfl, b⟩
        replace HH := Kept.mk (HH.out.bar (barOf b []) (by simp) (by simp))
        replace R7 := Kept.mk (R7.out.below b)
        replace B := Kept.mk (B.out.trans (b.mono B.out.size))
        clear b
        go_wp2_with fail
        refine (sum_any H N (cat X k) w5 HH.out (by omega)).mono ?_
        rintro e w6 ⟨M1, rfl, hM1, k1, b⟩
        replace HH := Kept.mk (HH.out.bar (barOf b []) (by simp) (by simp))
        replace R7 := Kept.mk (R7.out.below b)
        replace B := Kept.mk (B.out.trans (b.mono B.out.size))
        have K1 := Kept.mk k1
        clear b k1
        go_wp2_with fail
        refine (rhash_any A7 (cat X k).length c7 (cat X k) w6 R7.out (by omega)).mono ?_
        rintro e w7 ⟨M2, cap2, rfl, -, -, -, r9, b⟩
        replace HH := Kept.mk (HH.out.bar (barOf b []) (by simp) (by simp))
        replace R7 := Kept.mk (R7.out.below b)
        replace K1 := Kept.mk (K1.out.below b K1.out.lt)
        replace B := Kept.mk (B.out.trans (b.mono B.out.size))
        have R9 := Kept.mk r9
        clear b r9
        go_wp2_with fail
        refine (bytes_same _ _ _ _ _ _ (sha (cat X k)) w7 (Rd.blk K1.out (sha_bytes _) (sha_len _)) R9.out).mono ?_
        rintro e w8 ⟨rfl, rfl⟩
        clear K1 R9
        go_wp2_with fail
        refine (sum_any H N (cat X k) w7 HH.out (by omega)).mono ?_
        rintro e w8 ⟨M3, rfl, hM3, k1, b⟩
        have TT : Kept (Tab w8 N) := ⟨.inr (HH.out.bar (barOf b []) (by simp) (by simp)).2.1⟩
        have h3N : M3 ≠ N := by have := Blk.lt HH.out.2.1; omega
        replace R7 := Kept.mk (R7.out.below b)
        replace B := Kept.mk (B.out.trans (b.mono B.out.size))
        have K1 := Kept.mk k1
        clear b k1 HH
        go_wp2_with fail
        refine (one_any N A7 (cat X k).length c7 (cat X k) w8 TT.out R7.out hc7 hm7 (by omega)).mono ?_
        rintro e w9 ⟨M4, rfl, hM4, k4, m4, b⟩
        replace K1 := Kept.mk (K1.out.bar b (by simpa using h3N))
        replace B := Kept.mk (B.out.trans (b.below B.out.size (by simpa using hlt)))
        have K4 := Kept.mk k4
        clear b k4 m4 TT
        go_wp2_with fail
        refine (bytes_same _ _ _ _ _ _ (sha (cat X k)) w9 (Rd.blk K1.out (sha_bytes _) (sha_len _)) (Rd.blk K4.out (sha_bytes _) (sha_len _))).mono ?_
        rintro e w10 ⟨rfl, rfl⟩
        go_wp2
        go_ret
        exact ⟨rfl, B.out⟩
end Go.Proofs.Ytblhfbpokfegnaa.Sha
