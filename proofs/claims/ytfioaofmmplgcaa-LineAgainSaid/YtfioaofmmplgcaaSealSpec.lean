/-
  Chapter 14: a note's bytes, as a value. No program in sight.
-/
import Derived.Test.YtfioaofmmplgcaaWireSpec
import Derived.Test.YtfioaofmmplgcaaMacSpec
namespace Go.Proofs.Ytfioaofmmplgcaa.Seal
open Go.Proofs.Ytfioaofmmplgcaa.Sha Go.Proofs.Ytfioaofmmplgcaa.Wire Go.Proofs.Ytfioaofmmplgcaa.Mac

/-- a note -/
structure NV where
  party : Int
  which : Int
  way : Int
  seq : Int
  body : List Int
@[ext] theorem NV.ext' {n m : NV} (h1 : n.party = m.party) (h2 : n.which = m.which) (h3 : n.way = m.way) (h4 : n.seq = m.seq) (h5 : n.body = m.body) : n = m := by
  cases n; cases m; simp_all
def wayN (n : NV) : Prop := 0 ≤ n.party ∧ n.party < 16 ∧ (n.which = 0 ∨ n.which = 1) ∧ (n.way = 0 ∨ n.way = 1)
def mayN (n : NV) : Prop := wayN n ∧ 1 ≤ n.seq ∧ n.seq < 4294967296
instance (n : NV) : Decidable (wayN n) := by unfold wayN; infer_instance
instance (n : NV) : Decidable (mayN n) := by unfold mayN; infer_instance
def headN (n : NV) : List Int := [110] ++ be n.party.toNat 1 ++ be n.which.toNat 1 ++ be n.way.toNat 1 ++ be n.seq.toNat 4 ++ be n.body.length 4
def textN (n : NV) : List Int := headN n ++ n.body
def errN (n : NV) : Int := if mayN n then (if 60000 < n.body.length then 3 else 0) else 1
def noteN (key : List Int) (n : NV) : List Int := textN n ++ hmac key (textN n)
def sealN (key : List Int) (n : NV) : Int × List Int := (errN n, if errN n = 0 then noteN key n else [])
theorem errN_ok {n : NV} : errN n = 0 ↔ mayN n ∧ n.body.length ≤ 60000 := by
  unfold errN
  by_cases h : mayN n
  · rw [if_pos h]
    by_cases h2 : 60000 < n.body.length
    · rw [if_pos h2]; constructor
      · intro h3; omega
      · intro h3; omega
    · rw [if_neg h2]; exact ⟨fun _ => ⟨h, by omega⟩, fun _ => rfl⟩
  · rw [if_neg h]; constructor
    · intro h3; omega
    · intro h3; exact absurd h3.1 h
theorem headN_len (n : NV) : (headN n).length = 12 := by simp [headN, be_len]
theorem headN_bytes (n : NV) : Bytes (headN n) := by
  unfold headN
  refine (((((Bytes.append ?_ (be_bytes _ _)).append (be_bytes _ _)).append (be_bytes _ _)).append (be_bytes _ _)).append (be_bytes _ _))
  intro x hx
  simp at hx
  omega
theorem textN_len (n : NV) : (textN n).length = 12 + n.body.length := by
  simp only [textN, List.length_append, headN_len]
theorem textN_bytes (n : NV) (hb : Bytes n.body) : Bytes (textN n) := (headN_bytes n).append hb
theorem hmac_byt (key text : List Int) : Bytes (hmac key text) := by
  unfold hmac hmacK
  intro x hx
  unfold sha out8 at hx
  obtain ⟨y, hy, hx⟩ := List.mem_flatMap.1 hx
  simp only [List.mem_cons, List.not_mem_nil, or_false] at hx
  rcases hx with rfl | rfl | rfl | rfl <;> constructor <;> omega
theorem noteN_len (key : List Int) (n : NV) : (noteN key n).length = 44 + n.body.length := by
  simp only [noteN, List.length_append, textN_len, hmac_len]; omega
theorem noteN_bytes (key : List Int) (n : NV) (hb : Bytes n.body) : Bytes (noteN key n) := (textN_bytes n hb).append (hmac_byt _ _)

/-- what is read of bytes -/
def nS (b : List Int) : Nat := val ((b.drop 4).take 4)
def nN (b : List Int) : Nat := val ((b.drop 8).take 4)
/-- the head of a note, as Peek takes it -/
def headOkN (b : List Int) : Prop := at_ b 0 = 110 ∧ at_ b 1 < 16 ∧ at_ b 2 ≤ 1 ∧ at_ b 3 ≤ 1 ∧ nN b ≤ 60000
def peekOk (b : List Int) : Prop := 44 ≤ b.length ∧ headOkN b ∧ b.length = 44 + nN b
instance (b : List Int) : Decidable (headOkN b) := by unfold headOkN; infer_instance
instance (b : List Int) : Decidable (peekOk b) := by unfold peekOk; infer_instance
def peekN (b : List Int) : Int × Int × Int × Int := if peekOk b then (at_ b 1, at_ b 2, at_ b 3, 0) else (0, 0, 0, 2)
def openE (key b : List Int) : Int := if peekOk b ∧ nS b ≠ 0 then (if hmac key (b.take (b.length - 32)) = b.drop (b.length - 32) then 0 else 4) else 2
def noteV (b : List Int) : NV := ⟨at_ b 1, at_ b 2, at_ b 3, nS b, (b.take (b.length - 32)).drop 12⟩
def openN (key b : List Int) : NV × Int := if openE key b = 0 then (noteV b, 0) else (⟨0, 0, 0, 0, []⟩, openE key b)
theorem openE_cases (key b : List Int) : openE key b = 0 ∧ peekOk b ∧ nS b ≠ 0 ∧ hmac key (b.take (b.length - 32)) = b.drop (b.length - 32) ∨ openE key b = 2 ∧ ¬ (peekOk b ∧ nS b ≠ 0) ∨ openE key b = 4 ∧ peekOk b ∧ nS b ≠ 0 ∧ hmac key (b.take (b.length - 32)) ≠ b.drop (b.length - 32) := by
  unfold openE
  by_cases h : peekOk b ∧ nS b ≠ 0
  · rw [if_pos h]
    by_cases h2 : hmac key (b.take (b.length - 32)) = b.drop (b.length - 32)
    · rw [if_pos h2]; exact .inl ⟨rfl, h.1, h.2, h2⟩
    · rw [if_neg h2]; exact .inr (.inr ⟨rfl, h.1, h.2, h2⟩)
  · rw [if_neg h]; exact .inr (.inl ⟨rfl, h⟩)

/-! what was sealed is opened -/
theorem be_one (n : Int) (h : 0 ≤ n ∧ n < 256) : be n.toNat 1 = [n] := by
  have h2 : n.toNat < 256 := by omega
  simp only [be, Nat.pow_zero, Nat.div_one, List.cons.injEq, and_true]
  rw [Nat.mod_eq_of_lt h2]; omega
theorem headN_is {n : NV} (h : mayN n) : headN n = [110, n.party, n.which, n.way] ++ be n.seq.toNat 4 ++ be n.body.length 4 := by
  obtain ⟨⟨h1, h2, h3, h4⟩, -⟩ := h
  unfold headN
  rw [be_one _ ⟨h1, by omega⟩, be_one _ (by omega), be_one _ (by omega)]
  rfl
theorem noteN_is (key : List Int) {n : NV} (h : mayN n) : noteN key n = [110, n.party, n.which, n.way] ++ (be n.seq.toNat 4 ++ (be n.body.length 4 ++ (n.body ++ hmac key (textN n)))) := by
  unfold noteN
  rw [textN, headN_is h]
  simp only [List.append_assoc]
theorem note_parts (key : List Int) {n : NV} (h : mayN n) (hl : n.body.length ≤ 60000) :
    at_ (noteN key n) 0 = 110 ∧ at_ (noteN key n) 1 = n.party ∧ at_ (noteN key n) 2 = n.which ∧ at_ (noteN key n) 3 = n.way ∧ (nS (noteN key n) : Int) = n.seq ∧ nN (noteN key n) = n.body.length ∧ (noteN key n).take ((noteN key n).length - 32) = textN n ∧ (noteN key n).drop ((noteN key n).length - 32) = hmac key (textN n) := by
  have hT : (noteN key n).length - 32 = (textN n).length := by rw [noteN_len, textN_len]; omega
  have hs : n.seq.toNat < 256 ^ 4 := by have := h.2; simp only [show (256 : Nat) ^ 4 = 4294967296 from rfl]; omega
  have hb : n.body.length < 256 ^ 4 := by simp only [show (256 : Nat) ^ 4 = 4294967296 from rfl]; omega
  refine ⟨?_, ?_, ?_, ?_, ?_, ?_, ?_, ?_⟩
  · rw [noteN_is key h]; rfl
  · rw [noteN_is key h]; rfl
  · rw [noteN_is key h]; rfl
  · rw [noteN_is key h]; rfl
  · unfold nS
    rw [noteN_is key h, List.drop_left' (by rfl), List.take_left' (be_len _ _), val_be _ _ hs]
    have := h.2; omega
  · unfold nN
    rw [noteN_is key h, ← List.append_assoc, List.drop_left' (by simp [be_len]), List.take_left' (be_len _ _), val_be _ _ hb]
  · rw [hT]; unfold noteN; rw [List.take_left' rfl]
  · rw [hT]; unfold noteN; rw [List.drop_left' rfl]
theorem peek_note (key : List Int) {n : NV} (h : mayN n) (hl : n.body.length ≤ 60000) : peekOk (noteN key n) := by
  obtain ⟨e0, e1, e2, e3, -, e5, -, -⟩ := note_parts key h hl
  refine ⟨by rw [noteN_len]; omega, ⟨e0, ?_, ?_, ?_, by rw [e5]; omega⟩, by rw [noteN_len, e5]⟩
  · rw [e1]; exact h.1.2.1
  · rw [e2]; have := h.1.2.2.1; omega
  · rw [e3]; have := h.1.2.2.2; omega
theorem noteV_note (key : List Int) {n : NV} (h : mayN n) (hl : n.body.length ≤ 60000) : noteV (noteN key n) = n := by
  obtain ⟨-, e1, e2, e3, e4, -, e6, -⟩ := note_parts key h hl
  unfold noteV
  rw [e1, e2, e3, e4, e6]
  unfold textN
  rw [List.drop_left' (headN_len n)]
theorem open_note (key : List Int) {n : NV} (h : mayN n) (hl : n.body.length ≤ 60000) : openN key (noteN key n) = (n, 0) := by
  obtain ⟨-, -, -, -, e4, -, e6, e7⟩ := note_parts key h hl
  have hE : openE key (noteN key n) = 0 := by
    unfold openE
    rw [if_pos ⟨peek_note key h hl, by have := h.2; omega⟩, e6, e7, if_pos rfl]
  unfold openN
  rw [if_pos hE, noteV_note key h hl]
theorem peekN_note (key : List Int) {n : NV} (h : mayN n) (hl : n.body.length ≤ 60000) : peekN (noteN key n) = (n.party, n.which, n.way, 0) := by
  obtain ⟨-, e1, e2, e3, -, -, -, -⟩ := note_parts key h hl
  unfold peekN
  rw [if_pos (peek_note key h hl), e1, e2, e3]
/-- notes that differ are other bytes -/
theorem note_inj (key : List Int) {n m : NV} (h : mayN n) (hl : n.body.length ≤ 60000) (h' : mayN m) (hl' : m.body.length ≤ 60000) (e : noteN key n = noteN key m) : n = m := by
  rw [← noteV_note key h hl, e, noteV_note key h' hl']
/-- a length that does not fit -/
theorem nN_app (b c : List Int) (h : 12 ≤ b.length) : nN (b ++ c) = nN b := by
  unfold nN
  rw [List.drop_append_of_le_length (by omega), List.take_append_of_le_length (by simp; omega)]
theorem not_more {b : List Int} (h : peekOk b) (x : Int) : ¬ peekOk (b ++ [x]) := by
  rintro ⟨-, -, k⟩
  obtain ⟨h1, -, h2⟩ := h
  rw [nN_app _ _ (by omega), List.length_append, List.length_singleton] at k
  omega
theorem not_less {b : List Int} (h : peekOk b) (k : Nat) (hk : k < b.length) : ¬ peekOk (b.take k) := by
  rintro ⟨k1, -, k2⟩
  obtain ⟨h1, -, h2⟩ := h
  have e : nN (b.take k) = nN b := by
    conv => rhs; rw [← List.take_append_drop k b]
    rw [nN_app _ _ (by rw [List.length_take] at k1 ⊢; omega)]
  rw [e, List.length_take] at k2
  omega
end Go.Proofs.Ytfioaofmmplgcaa.Seal
