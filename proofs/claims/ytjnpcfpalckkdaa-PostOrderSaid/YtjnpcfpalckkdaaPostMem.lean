/-
  Chapter 17: a post, as a value and in memory (the landed one's block and the document's own are laid alike).
-/
import Derived.Test.YtjnpcfpalckkdaaOwnC
import Derived.Test.YtjnpcfpalckkdaaPutN
import Derived.Test.YtjnpcfpalckkdaaMemB
namespace Go.Proofs.Ytjnpcfpalckkdaa.Post
open Go.RowKit Go.Proofs.Ytjnpcfpalckkdaa.Sha

/-- a parcel -/
structure PV where
  to : Int
  b : List Int
/-- a parcel as it lies in memory -/
structure PA where
  to : Int
  A : Option Addr
  n : Nat
  c : Nat
  b : List Int
def PA.val (p : PA) : PV := ⟨p.to, p.b⟩
def zeroP : PV := ⟨0, []⟩
def paC (p : PA) : List Value := [.int .i64 p.to, .slice p.A p.n p.c]
theorem paC_len (p : PA) : (paC p).length = 2 := rfl
theorem paC_one (p : PA) : ∀ u ∈ paC p, u.oneCell' = true := by
  intro u hu
  simp only [paC, List.mem_cons, List.not_mem_nil, or_false] at hu
  rcases hu with rfl | rfl <;> rfl
def hasB (i : Int) (l : List PV) : Bool := decide (0 ≤ i ∧ i < l.length)
def atP (i : Int) (l : List PV) : PV := if hasB i l = true then l.getD i.toNat zeroP else zeroP
def delP (i : Int) (l : List PV) : List PV := if hasB i l = true then l.take i.toNat ++ l.drop (i.toNat + 1) else l
def putE (m : Int) (l : List PV) (b : List Int) : Int := if (l.length : Int) = m then 12 else if 60100 < b.length then 3 else 0
def putP (m : Int) (l : List PV) (to : Int) (b : List Int) : List PV := if putE m l b = 0 then l ++ [⟨to, b⟩] else l
def copyE (m i : Int) (l : List PV) : Int := if hasB i l = true then putE m l (atP i l).b else 8
def copyP (m i : Int) (l : List PV) : List PV := if hasB i l = true then putP m l (atP i l).to (atP i l).b else l
theorem has_true {i : Int} {l : List PV} (h : hasB i l = true) : ∃ k : Nat, i = k ∧ k < l.length := by
  unfold hasB at h
  have := of_decide_eq_true h
  exact ⟨i.toNat, by omega, by omega⟩
theorem at_val {k : Nat} {q : List PA} {p : PA} (h : q[k]? = some p) : atP (k : Int) (q.map PA.val) = p.val := by
  have hk : k < q.length := (List.getElem?_eq_some_iff.1 h).1
  have h1 : hasB (k : Int) (q.map PA.val) = true := by unfold hasB; rw [List.length_map]; exact decide_eq_true ⟨by omega, by omega⟩
  unfold atP
  rw [if_pos h1, List.getD_eq_getElem?_getD, Int.toNat_natCast, List.getElem?_map, h]
  rfl

/-- bytes that are read, in a block of bytes -/
def Rb (w : World) (A : Option Addr) (n : Nat) (b : List Int) : Prop :=
  Rd w A n b ∧ (n = 0 ∨ ∃ g o cs fr, A = some ⟨g, o, none⟩ ∧ w.heap[g]? = some (.cells cs 5 fr))
/-- blocks that hold no bytes -/
def Nb (w : World) (F : List Nat) : Prop := ∀ k ∈ F, ∃ cs T fr, w.heap[k]? = some (.cells cs T fr) ∧ T ≠ 5
theorem Rb.keep {w w' : World} {A : Option Addr} {n : Nat} {b : List Int} {F : List Nat} (h : Rb w A n b) (k : Bar F w w') (hF : Nb w F) : Rb w' A n b := by
  obtain ⟨r, h0 | ⟨g, o, cs, fr, rfl, hg⟩⟩ := h
  · subst h0
    exact ⟨⟨r.1, r.2.1, .inl rfl⟩, .inl rfl⟩
  · have hn : g ∉ F := fun hm => by
      obtain ⟨cs', T, fr', h1, h2⟩ := hF g hm
      rw [hg] at h1
      injection h1 with h1
      injection h1 with _ h1
      exact h2 h1.symm
    refine ⟨r.keep k (fun x hx => .inr fun o' ho => ?_), .inr ⟨g, o, cs, fr, rfl, ?_⟩⟩
    · injection ho with ho
      injection ho with ho
      exact hn (ho ▸ hx)
    · rw [k.block g (Array.getElem?_eq_some_iff.1 hg).1 hn]
      exact hg
theorem Rb.below {w w' : World} {A : Option Addr} {n : Nat} {b : List Int} (h : Rb w A n b) (k : Below w.heap.size w w') : Rb w' A n b := h.keep (F := []) (barOf k []) (fun _ h => by cases h)
theorem Rb.nil {w : World} {A : Option Addr} : Rb w A 0 [] := ⟨Rd.nil_, .inl rfl⟩
theorem Rb.own {w : World} {base n c : Nat} {A : Option Addr} {b : List Int} (h : w.ownsRow base 5 1 (.slice A n c) n (ints .u8 b)) (hb : Bytes b) : n ≤ c ∧ c ≤ 9223372036854775807 ∧ Rb w A n b := by
  obtain ⟨A', c', e, h1, h2, h3⟩ := own_rd h hb
  injection e with e1 e2 e3
  subst e1 e3
  refine ⟨h1, h2, h3, ?_⟩
  rcases h.2 with ⟨_, h0⟩ | ⟨g, cap, cur, hv, _, hh, _⟩
  · exact .inl h0
  · injection hv with hA
    exact .inr ⟨g, 0, cur, _, hA, hh⟩

/-- a parcel that is read -/
def Ec (w : World) (p : PA) : Prop := p.n ≤ p.c ∧ p.c ≤ 9223372036854775807 ∧ p.n ≤ 60100 ∧ Rb w p.A p.n p.b
theorem Ec.keep {w w' : World} {p : PA} {F : List Nat} (h : Ec w p) (k : Bar F w w') (hF : Nb w F) : Ec w' p := ⟨h.1, h.2.1, h.2.2.1, h.2.2.2.keep k hF⟩
/-- a post's row of parcels -/
def Prw (N : Nat) (w : World) (v : Value) (q : List PA) : Prop := w.ownsRow N 37 2 v q.length (q.flatMap paC)
theorem Prw.ow {N : Nat} {w : World} {v : Value} {q : List PA} (h : Prw N w v q) : Ow paC 2 37 w v q :=
  ⟨h.1, h.2.imp id (fun ⟨g, cap, cur, a, _, r⟩ => ⟨g, cap, cur, a, Nat.zero_le _, r⟩)⟩
theorem Prw.nb {N : Nat} {w : World} {v : Value} {q : List PA} (h : Prw N w v q) : Nb w v.ownBlock.toList := by
  intro k hk
  rcases h.2 with ⟨rfl, _⟩ | ⟨g, cap, cur, rfl, _, hh, _⟩
  · simp [Value.ownBlock] at hk
  · simp [Value.ownBlock] at hk
    subst hk
    exact ⟨cur, _, _, hh, by decide⟩
/-- a post in block x: at most m, its row of parcels q; F: its blocks -/
structure Po (T : TypeId) (F : List Nat) (N : Nat) (w : World) (x : Nat) (m : Int) (q : List PA) : Prop where
  least : N ≤ x
  most : (q.length : Int) ≤ m ∧ m ≤ 200
  mem : ∃ v, Blk w x T #[.int .i64 m, v] ∧ Prw N w v q ∧ F = x :: v.ownBlock.toList
  each : ∀ p ∈ q, Ec w p
def Ps (T : TypeId) (F : List Nat) (N : Nat) (w : World) (x : Nat) (m : Int) (l : List PV) : Prop := ∃ q, q.map PA.val = l ∧ Po T F N w x m q
section
variable {T : TypeId} {F G : List Nat} {N x : Nat} {w w' : World} {m : Int} {q : List PA} {l : List PV}
theorem Po.nb (h : Po T F N w x m q) (hT : T ≠ 5) : Nb w F := by
  obtain ⟨-, -, ⟨v, hb, hr, rfl⟩, -⟩ := h
  intro k hk
  rcases List.mem_cons.1 hk with rfl | hk
  · exact ⟨_, T, _, hb, hT⟩
  · exact hr.nb k hk
theorem Po.lt (h : Po T F N w x m q) : ∀ k ∈ F, N ≤ k ∧ k < w.heap.size := by
  obtain ⟨hl, -, ⟨v, hb, hr, rfl⟩, -⟩ := h
  intro k hk
  rcases List.mem_cons.1 hk with rfl | hk
  · exact ⟨hl, hb.lt⟩
  · exact World.ownsRow.lt hr k (by simpa using hk)
/-- another object's turn -/
theorem Po.keep (h : Po T F N w x m q) (b : Bar G w w') (hd : ∀ k ∈ F, k ∉ G) (hG : Nb w G) : Po T F N w' x m q := by
  obtain ⟨hl, hm, ⟨v, hb, hr, rfl⟩, he⟩ := h
  exact ⟨hl, hm, ⟨v, hb.bar b (hd x (by simp)), own_keep hr b (fun g hg => hd g (by simp [Option.mem_toList.1 hg])), rfl⟩, fun p hp => (he p hp).keep b hG⟩
theorem Po.below (h : Po T F N w x m q) (b : Below w.heap.size w w') : Po T F N w' x m q := h.keep (barOf b []) (by simp) (fun _ h => by cases h)
theorem Ps.nb (h : Ps T F N w x m l) (hT : T ≠ 5) : Nb w F := by obtain ⟨q, -, h⟩ := h; exact h.nb hT
theorem Ps.lt (h : Ps T F N w x m l) : ∀ k ∈ F, N ≤ k ∧ k < w.heap.size := by obtain ⟨q, -, h⟩ := h; exact h.lt
theorem Ps.keep (h : Ps T F N w x m l) (b : Bar G w w') (hd : ∀ k ∈ F, k ∉ G) (hG : Nb w G) : Ps T F N w' x m l := by obtain ⟨q, e, h⟩ := h; exact ⟨q, e, h.keep b hd hG⟩
theorem Ps.below (h : Ps T F N w x m l) (b : Below w.heap.size w w') : Ps T F N w' x m l := by obtain ⟨q, e, h⟩ := h; exact ⟨q, e, h.below b⟩
theorem Ps.len (h : Ps T F N w x m l) : (l.length : Int) ≤ m ∧ m ≤ 200 := by obtain ⟨q, rfl, h⟩ := h; rw [List.length_map]; exact h.most
/-- the post has this row now -/
theorem Po.turn {v' : Value} {q' : List PA} (hx : Blk w x T #[.int .i64 m, v']) (hl : N ≤ x) (hm : (q'.length : Int) ≤ m ∧ m ≤ 200) (hr : Prw N w v' q') (he : ∀ p ∈ q', Ec w p) : Po T (x :: v'.ownBlock.toList) N w x m q' := ⟨hl, hm, ⟨v', hx, hr, rfl⟩, he⟩
end
/-- a post's memory, its row by name -/
structure Pv (T : TypeId) (N : Nat) (w : World) (x : Nat) (m : Int) (v : Value) (q : List PA) : Prop where
  least : N ≤ x
  blk : Blk w x T #[.int .i64 m, v]
  row : Prw N w v q
  each : ∀ p ∈ q, Ec w p
section
variable {T : TypeId} {N x : Nat} {w w' : World} {m : Int} {v v' : Value} {q q' : List PA}
theorem Pv.po (h : Pv T N w x m v q) (hm : (q.length : Int) ≤ m ∧ m ≤ 200) : Po T (x :: v.ownBlock.toList) N w x m q := ⟨h.least, hm, ⟨v, h.blk, h.row, rfl⟩, h.each⟩
theorem Po.pv {F : List Nat} (h : Po T F N w x m q) : ∃ A c, q.length ≤ c ∧ c ≤ 9223372036854775807 ∧ Pv T N w x m (.slice A q.length c) q ∧ F = x :: (Value.slice A q.length c).ownBlock.toList := by
  obtain ⟨a, -, ⟨v, hb, hr, rfl⟩, e⟩ := h
  obtain ⟨A, c, rfl, h1, h2⟩ := hr.ow.shape
  exact ⟨A, c, h1, h2, ⟨a, hb, hr, e⟩, rfl⟩
theorem Pv.nb (h : Pv T N w x m v q) (hT : T ≠ 5) : Nb w (x :: v.ownBlock.toList) := fun k hk => by
  rcases List.mem_cons.1 hk with rfl | hk
  · exact ⟨_, T, _, h.blk, hT⟩
  · exact h.row.nb k hk
theorem Pv.below (h : Pv T N w x m v q) (b : Below w.heap.size w w') : Pv T N w' x m v q :=
  ⟨h.least, h.blk.below b h.blk.lt, own_keep h.row (barOf b []) (by simp), fun p hp => (h.each p hp).keep (F := []) (barOf b []) (fun _ h => by cases h)⟩
theorem Pv.far (h : Pv T N w x m v q) (hT : 37 ≠ T) : ∀ g ∈ v.ownBlock.toList, g ≠ x := fun g hg e => own_far h.row h.blk hT (by rw [← e]; exact Option.mem_toList.1 hg)
theorem Pv.at_ {A : Option Addr} {c : Nat} (h : Pv T N w x m (.slice A q.length c) q) {k : Nat} (hk : k < q.length) :
    ∃ g p, A = some ⟨g, 0, none⟩ ∧ q[k]? = some p ∧ w.cell? ⟨g, k * 2, none⟩ = some (.int .i64 p.to) ∧ w.cell? ⟨g, k * 2 + 1, none⟩ = some (.slice p.A p.n p.c) ∧ Ec w p ∧ atP (k : Int) (q.map PA.val) = p.val := by
  have e : q[k]? = some (q[k]'hk) := List.getElem?_eq_getElem _
  have hr := h.row
  rcases h.row.2 with ⟨_, h0⟩ | ⟨g, cap, cur, hv, -, -, -⟩
  · omega
  · injection hv with e1 _ e3
    subst e1
    refine ⟨g, _, rfl, e, ?_, ?_, h.each _ (List.getElem_mem _), at_val e⟩
    · have := World.ownsRow.cellAt hr (k * 2 + 0) (by omega)
      rw [flatC_at paC 2 paC_len q k 0 _ e (by omega)] at this
      exact this
    · have := World.ownsRow.cellAt hr (k * 2 + 1) (by omega)
      rw [flatC_at paC 2 paC_len q k 1 _ e (by omega)] at this
      exact this
/-- its row is another one now -/
theorem Pv.turn {G : List Nat} (h : Pv T N w x m v q) (hT : T ≠ 5) (hP : 37 ≠ T) (b : Bar G w w') (hG : ∀ k ∈ G, k ∈ v.ownBlock.toList) (hr : Prw N w' v' q') (he : ∀ p ∈ q', Ec w p)
    (hn : ∀ k ∈ v'.ownBlock.toList, k ∈ v.ownBlock.toList ∨ w.heap.size ≤ k) :
    Blk w' x T #[.int .i64 m, v] ∧ Pv T N (w'.setCell ⟨x, 1, none⟩ v') x m v' q' ∧ Fp (x :: v.ownBlock.toList) (x :: v'.ownBlock.toList) w (w'.setCell ⟨x, 1, none⟩ v') := by
  have hb : Blk w' x T #[.int .i64 m, v] := h.blk.bar b (fun hm => h.far hP x (hG x hm) rfl)
  have b2 : Bar [x] w' (w'.setCell ⟨x, 1, none⟩ v') := (Bar.refl _ w').setCell (by simp) _
  have nG : Nb w G := fun k hk => h.nb hT k (by simp [Option.mem_toList.1 (hG k hk)])
  have nx : Nb w' [x] := fun k hk => by rw [List.mem_singleton] at hk; subst hk; exact ⟨_, T, _, hb, hT⟩
  have far : ∀ g ∈ v'.ownBlock.toList, g ≠ x := fun g hg e => own_far hr hb hP (by rw [← e]; exact Option.mem_toList.1 hg)
  refine ⟨hb, ⟨h.least, by simpa using hb.set_ 1 v', own_keep hr b2 (fun g hg hm => far g hg (by simpa using hm)), fun p hp => ((he p hp).keep b nG).keep b2 nx⟩, ?_, fun k hk => ?_⟩
  · refine (b.mono (l' := x :: v.ownBlock.toList) (fun z hz => .inl (List.mem_cons_of_mem _ (hG z hz)))).trans b2 (fun z hz => .inl ?_)
    rw [List.mem_singleton] at hz
    simp [hz]
  · rcases List.mem_cons.1 hk with e | hk
    · exact .inl (by simp [e])
    · exact (hn k hk).imp (fun h => List.mem_cons_of_mem _ h) id
theorem Pv.push {p : PA} (h : Pv T N w x m v q) (hT : T ≠ 5) (hP : 37 ≠ T) (hg : w.grownBy w' v.ownBlock) (ho : w'.ownsRow N 37 2 v' (q.length + 1) (q.flatMap paC ++ paC p)) (hat : v'.ownBlock = v.ownBlock ∨ v'.ownBlock = some w.heap.size) (hp : Ec w p) :
    Blk w' x T #[.int .i64 m, v] ∧ Pv T N (w'.setCell ⟨x, 1, none⟩ v') x m v' (q ++ [p]) ∧ Fp (x :: v.ownBlock.toList) (x :: v'.ownBlock.toList) w (w'.setCell ⟨x, 1, none⟩ v') := by
  refine h.turn hT hP (Bar.grownRow hg) (fun _ h => h) ?_ (fun z hz => ?_) (fun k hk => ?_)
  · unfold Prw
    rw [List.length_append, List.length_singleton, List.flatMap_append, List.flatMap_singleton]
    exact ho
  · rcases List.mem_append.1 hz with hz | hz
    · exact h.each z hz
    · rw [List.mem_singleton] at hz; subst hz; exact hp
  · rcases hat with e | e
    · rw [e] at hk; exact .inl hk
    · rw [e] at hk; simp at hk; exact .inr (by omega)
end
theorem Ps.root {T : TypeId} {F : List Nat} {N x : Nat} {w : World} {m : Int} {l : List PV} (h : Ps T F N w x m l) : x ∈ F ∧ N ≤ x ∧ x < w.heap.size := by
  have h0 := h
  obtain ⟨q, -, -, -, ⟨v, hb, -, rfl⟩, -⟩ := h
  exact ⟨by simp, h0.lt x (by simp)⟩
/-- a law's own frame, behind a post's turn -/
theorem Ps.step {T : TypeId} {F F' : List Nat} {N x : Nat} {w w1 w2 : World} {m : Int} {l : List PV} (h : Ps T F N w1 x m l) (b : Below N w w1) (k : Fp F F' w1 w2) : Below N w w2 :=
  b.trans (k.below (fun z hz => (h.lt z hz).1) (by have := h.root; omega))
/-- a number is answered; the post is then l -/
def NumP (T : TypeId) (F : List Nat) (N x : Nat) (m : Int) (u : Value) (l : List PV) (w : World) (e : Ending) (w' : World) : Prop :=
  ∃ F', e = .returned u ∧ Ps T F' N w' x m l ∧ Fp F F' w w'
/-- the same, and each parcel was there or lies in new memory -/
def NumQ (T : TypeId) (F : List Nat) (N x : Nat) (m : Int) (q : List PA) (u : Value) (l : List PV) (w : World) (e : Ending) (w' : World) : Prop :=
  ∃ F' q', e = .returned u ∧ q'.map PA.val = l ∧ Po T F' N w' x m q' ∧ (∀ p ∈ q', p ∈ q ∨ NewA w p.A) ∧ Fp F F' w w'
/-- a parcel is answered, and whether there is one; the post is then l -/
def ParP (T : TypeId) (F : List Nat) (N x : Nat) (m : Int) (p : PV) (t : Bool) (l : List PV) (w : World) (e : Ending) (w' : World) : Prop :=
  ∃ A n c F', e = .returned (.tuple #[.agg #[.int .i64 p.to, .slice A n c], .bool t]) ∧ n ≤ c ∧ c ≤ 9223372036854775807 ∧ Rb w' A n p.b ∧ Ps T F' N w' x m l ∧ Fp F F' w w'
end Go.Proofs.Ytjnpcfpalckkdaa.Post
