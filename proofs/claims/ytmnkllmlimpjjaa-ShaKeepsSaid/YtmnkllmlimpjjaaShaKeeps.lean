/-
  The law ShaKeeps, walked.
-/
import Derived.Test.YtmnkllmlimpjjaaShaTable
namespace Go.Proofs.Ytmnkllmlimpjjaa.Sha
open Go.RowKit

theorem own_rd2 {w : World} {base : Nat} {v : Value} {n : Nat} {xs : List Int} (h : w.ownsRow base 5 1 v n (ints .u8 xs)) (hb : Bytes xs) : ∃ A cap, v = .slice A n cap ∧ n ≤ cap ∧ cap ≤ 9223372036854775807 ∧ Rd w A n xs ∧
    (n = 0 ∨ ∃ g cs, A = some ⟨g, 0, none⟩ ∧ base ≤ g ∧ Blk w g 5 cs ∧ ∀ j, j < n → cs[j]? = some (.int .u8 (at_ xs j))) := by
  obtain ⟨A, cap, rfl, h1, h2, h3⟩ := own_rd h hb
  refine ⟨A, cap, rfl, h1, h2, h3, ?_⟩
  rcases h.2 with ⟨_, h0⟩ | ⟨g, cap, cur, hv, hg, hh, _⟩
  · exact .inl h0
  · injection hv with hA
    subst hA
    refine .inr ⟨g, cur, rfl, hg, hh, fun j hj => ?_⟩
    rw [← Blk.cell hh j]
    exact own_cell h j hj

set_option maxRecDepth 100000 in
set_option maxHeartbeats 1000000 in
theorem keeps_walk (A : Option Addr) (n cap : Nat) (xs : List Int) (w : World) (hr : Rd w A n xs) :
    Calls Try.prog 7 #[.slice A n cap] w fun e w' => e = .returned (.bool true) ∧ Below w.heap.size w w' := by
  have HR := Kept.mk hr
  clear hr
  by_cases hlen : 500 < n
  · go_enter Try.func7, Try.ntmps7
    go_wp2_with fail
    refine (first_any _).mono ?_
    rintro e w1 ⟨rfl, b1⟩
    go_wp2_with fail
    refine (newtable_any w1).mono ?_
    rintro e w2 ⟨rfl, rfl⟩
    have b2 := b1.alloc b1.size (.cells (tbl (.int .u32 0) (.int .i32 0) (.int .u32 0) 0 0) 58)
    generalize w1.alloc (.cells (tbl (.int .u32 0) (.int .i32 0) (.int .u32 0) 0 0) 58) = w2 at *
    clear b1
    generalize w1.heap.size = N
    go_wp2_with fail
    refine (first_any _).mono ?_
    rintro e w3 ⟨rfl, b3⟩
    have B3 := Kept.mk (b2.trans (b3.mono b2.size))
    clear b2 b3
    go_wp2
    go_ret
    exact ⟨rfl, B3.out⟩
  · have LX := Kept.mk HR.out.1
    go_enter Try.func7, Try.ntmps7
    go_wp2_with fail
    refine (first_any _).mono ?_
    rintro e w1 ⟨rfl, b1⟩
    go_wp2_with fail
    refine (newtable_any w1).mono ?_
    rintro e w2 ⟨rfl, rfl⟩
    obtain ⟨N, hN⟩ : ∃ N, w1.heap.size = N := ⟨_, rfl⟩
    have t2 : Tab (w1.alloc (.cells (tbl (.int .u32 0) (.int .i32 0) (.int .u32 0) 0 0) 58)) N := .inl (Blk.new_at _ _ _ N hN.symm)
    have b2 := b1.alloc b1.size (.cells (tbl (.int .u32 0) (.int .i32 0) (.int .u32 0) 0 0) 58)
    have hlt : w.heap.size ≤ N := hN ▸ b1.size
    have hlt2 : N < (w1.alloc (.cells (tbl (.int .u32 0) (.int .i32 0) (.int .u32 0) 0 0) 58)).heap.size := by simp [hN]
    rw [hN]
    generalize w1.alloc (.cells (tbl (.int .u32 0) (.int .i32 0) (.int .u32 0) 0 0) 58) = w2 at *
    clear b1 hN
    have T2 := Kept.mk t2; have B2 := Kept.mk b2
    clear t2 b2
    go_wp2_with fail
    refine (new_any N w2 T2.out).mono ?_
    rintro e w3 ⟨H, rfl, hH, hsH, b⟩
    have hHN : H ≠ N := hsH.1
    have hHB : w.heap.size ≤ H := by have := B2.out.size; omega
    have B := Kept.mk (B2.out.trans (b.below B2.out.size (by simpa using hlt)))
    have HH := Kept.mk hsH
    clear b hsH T2 B2 hlt2
    go_wp2_with fail
    refine (copy_any A n cap xs w3 (HR.out.below B.out) (by omega)).mono ?_
    rintro e w4 ⟨v, rfl, own, b⟩
    have h3 := B.out.size
    have hH3 := HH.out.lt
    have hN3 : N < w3.heap.size := HH.out.2.1.lt
    replace HH := Kept.mk (HH.out.bar (barOf b []) (by simp) (by simp))
    replace B := Kept.mk (B.out.trans (b.mono B.out.size))
    obtain ⟨A', c', rfl, hc', hm', r', hg⟩ := own_rd2 own HR.out.2.1
    have R' := Kept.mk r'; have HG := Kept.mk hg
    generalize w3.heap.size = base at *
    clear own b r' hg
    go_wp2_with fail
    refine (write_any H N [] xs A' n c' w4 HH.out ?_ hc' hm' (by simp; omega)).mono ?_
    · obtain ⟨q1, q2, q3⟩ := R'.out
      refine ⟨q1, q2, ?_⟩
      rcases HG.out with h | ⟨g, cs, rfl, hb, -, -⟩
      · exact .inl h
      · rcases q3 with h | ⟨bb, o, he, q⟩
        · exact .inl h
        · injection he with he
          injection he with h1 h2
          subst h1 h2
          exact .inr ⟨g, 0, rfl, by omega, q⟩
    rintro e w5 ⟨rfl, hsH, b⟩
    rw [List.nil_append] at hsH
    replace HG : Kept (n = 0 ∨ ∃ g cs, A' = some ⟨g, 0, none⟩ ∧ base ≤ g ∧ Blk w5 g 5 cs ∧ ∀ j, 0 ≤ j → j < n → cs[j]? = some (.int .u8 (at_ xs j))) := by
      refine ⟨HG.out.imp id ?_⟩
      rintro ⟨g, cs, h1, h2, h3, h4⟩
      exact ⟨g, cs, h1, h2, h3.bar b (by simp; omega), fun j _ => h4 j⟩
    replace B := Kept.mk (B.out.trans (b.below B.out.size (by simpa using hHB)))
    replace HH := Kept.mk hsH
    clear b hsH R'
    go_wp2
    go_loopw [6] (fun i w6 => ∃ k : Nat, k ≤ n ∧ i = .int .i64 k ∧ Kept (n = 0 ∨ ∃ g cs, A' = some ⟨g, 0, none⟩ ∧ base ≤ g ∧ Blk w6 g 5 cs ∧ ∀ j, k ≤ j → j < n → cs[j]? = some (.int .u8 (at_ xs j))) ∧ Kept (Hs w6 H N xs) ∧ Kept (Below w.heap.size w w6)) (fun i _ => n - (intOf i).toNat)
    case atStart => exact ⟨0, by omega, rfl, HG, HH, B⟩
    case round =>
      clear HG HH B
      obtain ⟨k, hk, rfl, hg, HH, B⟩ := hrel
      by_cases hkn : k < n
      · obtain ⟨g, cs, rfl, hbg, kb, hcs⟩ := hg.out.resolve_left (by omega)
        obtain ⟨bb, o, rfl, hc⟩ := (HR.out.below B.out).2.2.resolve_left (by omega)
        have x0 := (kb.cell k).trans (hcs k (Nat.le_refl _) hkn)
        have y0 := hc k hkn
        have hkn' : (k : Int) < n := by omega
        have KB := Kept.mk kb; have HCS := Kept.mk hcs
        have f0 := kb.frozen k
        generalize at_ xs k = z at *
        clear kb hcs hc hg
        go_wp2
        go_quiet (fail)
        replace x0 : (wr.drewN nq).cell? ⟨g, k, none⟩ = _ := x0
        replace f0 : (wr.drewN nq).frozen? ⟨g, k, none⟩ = _ := f0
        replace KB : Kept (Blk (wr.drewN nq) g 5 cs) := ⟨KB.out⟩
        replace HH : Kept (Hs (wr.drewN nq) H N xs) := ⟨HH.out.bar ((Bar.refl [] wr).drewN nq) (by simp) (by simp)⟩
        replace B : Kept (Below w.heap.size w (wr.drewN nq)) := ⟨below_drewN B.out _⟩
        generalize wr.drewN nq = wq at *
        clear y0
        go_wp2
        go_roundw
        case rel =>
          have bq : ∀ u, Bar [g] wq (wq.setCell ⟨g, k, none⟩ u) := fun u => (Bar.refl [g] wq).setCell (by simp) u
          refine ⟨k + 1, by omega, by go_num, ⟨.inr ⟨g, _, rfl, hbg, KB.out.set_ k _, fun j hj hjn => ?_⟩⟩, ⟨HH.out.bar (bq _) (by simp; omega) (by simp; omega)⟩, ⟨B.out.trans ((bq _).below B.out.size (by simp; omega))⟩⟩
          rw [Array.getElem?_setIfInBounds_ne (by omega)]
          exact HCS.out j (by omega) hjn
        case measure => simp [intOf]; omega
      · have hkn' : ¬ (k : Int) < n := by omega
        clear hg
        go_wp2_with fail
        refine (sum_any H N xs wr HH.out (by have := LX.out; omega)).mono ?_
        rintro e w7 ⟨M1, rfl, hM1, k1, b⟩
        have hlH := HH.out.lt
        have hlN : N < wr.heap.size := HH.out.2.1.lt
        have hwM : w.heap.size ≤ M1 := by have := B.out.size; omega
        replace HH := Kept.mk (HH.out.bar (barOf b []) (by simp) (by simp))
        replace B := Kept.mk (B.out.trans (b.mono B.out.size))
        have K1 := Kept.mk k1
        clear b k1
        go_wp2_with fail
        refine (rhash_any A n cap xs w7 (HR.out.below B.out) (by omega)).mono ?_
        rintro e w8 ⟨M2, cap2, rfl, -, -, -, r8, b⟩
        replace HH := Kept.mk (HH.out.bar (barOf b []) (by simp) (by simp))
        replace K1 := Kept.mk (K1.out.below b K1.out.lt)
        replace B := Kept.mk (B.out.trans (b.mono B.out.size))
        have R8 := Kept.mk r8
        clear b r8
        go_wp2_with fail
        refine (bytes_same _ _ _ _ _ _ (sha xs) w8 (Rd.blk K1.out (sha_bytes _) (sha_len _)) R8.out).mono ?_
        rintro e w9 ⟨rfl, rfl⟩
        have x0 := K1.out.at_ 0 (by rw [sha_len]; omega)
        have f0 := K1.out.frozen 0
        generalize at_ (sha xs) 0 = z at *
        clear R8
        go_wp2_with fail
        refine (first_any _).mono ?_
        rintro e w10 ⟨rfl, b⟩
        have bq : ∀ u, Bar [M1] w8 (w8.setCell ⟨M1, 0, none⟩ u) := fun u => (Bar.refl [M1] w8).setCell (by simp) u
        have b2 := (bq _).trans (barOf b []) (by simp)
        replace HH := Kept.mk (HH.out.bar b2 (by simp; omega) (by simp; omega))
        replace B := Kept.mk (B.out.trans (b2.below B.out.size (by simpa using hwM)))
        clear b b2 bq K1 x0 f0
        go_wp2_with fail
        refine (sum_any H N xs w10 HH.out (by have := LX.out; omega)).mono ?_
        rintro e w11 ⟨M3, rfl, hM3, k1, b⟩
        replace B := Kept.mk (B.out.trans (b.mono B.out.size))
        have K1 := Kept.mk k1
        clear b k1
        go_wp2_with fail
        refine (rhash_any A n cap xs w11 (HR.out.below B.out) (by omega)).mono ?_
        rintro e w12 ⟨M4, cap4, rfl, -, -, -, r8, b⟩
        replace K1 := Kept.mk (K1.out.below b K1.out.lt)
        replace B := Kept.mk (B.out.trans (b.mono B.out.size))
        have R8 := Kept.mk r8
        clear b r8
        go_wp2_with fail
        refine (bytes_same _ _ _ _ _ _ (sha xs) w12 (Rd.blk K1.out (sha_bytes _) (sha_len _)) R8.out).mono ?_
        rintro e w13 ⟨rfl, rfl⟩
        go_wp2
        go_ret
        exact ⟨rfl, B.out⟩
end Go.Proofs.Ytmnkllmlimpjjaa.Sha
