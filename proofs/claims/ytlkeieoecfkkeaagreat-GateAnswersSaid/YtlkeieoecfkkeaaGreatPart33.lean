/-
  Parts laid together: FrameSum FrameCGet.
-/
import Derived.Test.YtlkeieoecfkkeaaGreatPart6
import Derived.Test.YtlkeieoecfkkeaaGreatPart9
import Derived.Lib.SmallJoins
import Derived.Test.YtlkeieoecfkkeaaGreatPart21
import Derived.Test.YtlkeieoecfkkeaaGreatPart30
import Derived.Test.YtlkeieoecfkkeaaGreatPart14
import Derived.Test.YtlkeieoecfkkeaaGreatPart31
import Derived.Test.YtlkeieoecfkkeaaGreatPart32
set_option maxRecDepth 100000
set_option maxHeartbeats 1000000
namespace Go.Proofs.YtlkeieoecfkkeaaGreat
namespace Frame
open Go.RowKit Sha Wire
theorem WY {w w':World}{A:Option Addr}{n h:Nat}{xs:List Int}(r:Rd w A n xs) (r':Rd w' A n xs) (hh:w.heap.size≤h):Sl w' A n xs h:=by
 obtain⟨h1,h2,h3⟩:=r
 refine⟨h1,h2,?_⟩
 by_cases h0:n=0
 ·exact .inl h0
 ·obtain⟨bb,o,rfl,hc⟩:=h3.resolve_left h0
  have hlt:bb < w.heap.size:=World.block_lt_of_cell? _ _ (hc 0 (by omega))
  obtain⟨b2,o2,he,hc2⟩:=r'.2.2.resolve_left h0
  injection he with he
  injection he with e1 e2
  subst e1 e2
  exact .inr ⟨bb,o,rfl,by omega,hc2⟩
def QA (t:Nat) (xs:List Int) (w:World) (e:Ending) (w':World):Prop:=∃ M,e=.returned (.slice (some ⟨M,0,none⟩) 8 32)∧w.heap.size≤M∧Rd w' (some ⟨M,0,none⟩) 8 ((sha xs).take 8)∧Tab w' t∧Bar [t] w w'
theorem EI (t:Nat) (A B:Option Addr) (n c m d:Nat) (H Bd:List Int) (w:World) (ht:Tab w t) (rh:Rd w A n H) (rb:Rd w B m Bd) (h1:n≤c) (h2:c≤9223372036854775807) (h3:m≤d) (h4:d≤9223372036854775807) (hn:n≤1073741824) (hm:m≤1073741824) :
  Calls Tryz.prog 157 #[.pointer (some ⟨t,0,none⟩),.slice A n c,.slice B m d] w (QA t (H++Bd) w):=by
 obtain⟨N,hN⟩:∃ N,w.heap.size=N:=⟨_,rfl⟩
 have htN:t < N:=by rw[← hN];exact ht.lt
 have RH:=ae.mk rh;have RB:=ae.mk rb;have HT:=ae.mk ht
 have hl1:=rh.1;have hl2:=rb.1
 clear rh rb ht
 go_enter Tryz.func157,Tryz.ntmps157
 go_wp2_with fail
 refine(new_any t w HT.out).mono ?_
 rintro e w1 ⟨h,rfl,hh,s1,b1⟩
 rw[hN] at hh
 have H1:=ae.mk s1
 have RH1:=ae.mk (WY RH.out (RH.out.tab HT.out b1) (hN.symm▸hh))
 have RB1:=ae.mk (RB.out.tab HT.out b1)
 have B1:=ae.mk b1
 clear s1 b1
 go_wp2_with fail
 refine(write_any h t [] H A n c w1 H1.out RH1.out h1 h2 (by simp;omega)).mono ?_
 rintro e w2 ⟨rfl,s2,b2⟩
 rw[List.nil_append] at s2
 have H2:=ae.mk s2
 have RB2:=ae.mk (WY RB.out (RB1.out.far b2 (RB.out.off (F:=[h]) (by intro k hk;rw[List.mem_singleton] at hk;omega))) (hN.symm▸hh))
 have B2:=ae.mk (B1.out.trans b2 (by intro x hx;rw[List.mem_singleton] at hx;subst hx;exact .inr (by omega)))
 clear s2 b2 H1 RH1 RB1 B1
 go_wp2_with fail
 refine(write_any h t H Bd B m d w2 H2.out RB2.out h3 h4 (by omega)).mono ?_
 rintro e w3 ⟨rfl,s3,b3⟩
 have H3:=ae.mk s3
 have hlt:h < w3.heap.size:=s3.lt
 have htl:t < w3.heap.size:=Blk.lt s3.2.1
 have B3:=ae.mk (B2.out.trans b3 (by intro x hx;rw[List.mem_singleton] at hx;subst hx;exact .inr (by omega)))
 clear s3 b3 H2 RB2 B2
 go_wp2_with fail
 refine(sum_any h t (H++Bd) w3 H3.out (by rw[List.length_append];omega)).mono ?_
 rintro e w4 ⟨M,rfl,hM,k4,b4⟩
 have R4:=ae.mk ((Rd.blk k4 (uk _) (eF _)).upto (m:=8) (by omega))
 have T4:ae (Tab w4 t):=⟨.inr (Blk.below H3.out.2.1 b4 htl)⟩
 have B4:=ae.mk (B3.out.trans (barOf b4 []) (by simp))
 have hNM:N≤M:=by have:=B3.out.size;omega
 have hs:=dE (some ⟨M,0,none⟩) 32 32 8 (by omega) 8 rfl
 clear k4 b4 H3 B3
 go_wp2
 go_ret
 exact⟨M,rfl,by omega,R4.out,T4.out,B4.out⟩
theorem EJ {b:List Int}:lF b 1=true ↔ 64≤b.length∧at_ b 0=1:=by
 unfold lF
 rw[decide_eq_true_iff]
 constructor
 ·rintro ⟨h1,h2⟩
  exact⟨by omega,h2 0 (by omega)⟩
 ·rintro ⟨h1,h2⟩
  refine⟨by omega,fun i hi=>?_⟩
  obtain rfl:i=0:=by omega
  exact h2
def Gy (w0:World) (t N:Nat) (A:Option Addr) (n:Nat) (b:List Int) (w:World):Prop :=
 Blk w N 231 #[.int .i64 0,.int .i64 0,.int .i64 0,.slice none 0 0]∧Rd w A n b∧Tab w t∧Bar [t] w0 w∧w0.heap.size=N∧t < N∧∀ F:List Nat,(∀ k∈F,N≤k)→Off A n F
theorem Gy.below {w0:World}{t N:Nat}{A:Option Addr}{n:Nat}{b:List Int}{w w':World}(h:Gy w0 t N A n b w) (k:Below w.heap.size w w'):Gy w0 t N A n b w':=by
 obtain⟨h1,h2,h3,h4,h5,h6,h7⟩:=h
 exact⟨h1.below k h1.lt,h2.below k,h3.below k h3.lt,h4.trans (barOf k []) (by simp),h5,h6,h7⟩
theorem Gy.tab {w0:World}{t N:Nat}{A:Option Addr}{n:Nat}{b:List Int}{w w':World}(h:Gy w0 t N A n b w) (k:Bar [t] w w') (kt:Tab w' t):Gy w0 t N A n b w':=by
 obtain⟨h1,h2,h3,h4,h5,h6,h7⟩:=h
 exact⟨h1.bar k (by rw[List.mem_singleton];omega),h2.tab h3 k,kt,h4.trans k (by simp),h5,h6,h7⟩
theorem Gy.set {w0:World}{t N T:Nat}{A:Option Addr}{n:Nat}{b:List Int}{w:World}(h:Gy w0 t N A n b w) (hT:N < T) (i:Nat) (v:Value):Gy w0 t N A n b (w.setCell ⟨T,i,none⟩ v):=by
 obtain⟨h1,h2,h3,h4,h5,h6,h7⟩:=h
 have hb:Bar [T] w (w.setCell ⟨T,i,none⟩ v):=(Bar.refl _ _).setCell (by simp) _
 exact⟨h1.bar hb (by rw[List.mem_singleton];omega),h2.far hb (h7 _ (by intro k hk;rw[List.mem_singleton] at hk;omega)),h3.bar hb (by rw[List.mem_singleton];omega),h4.trans hb (by intro x hx;rw[List.mem_singleton] at hx;omega),h5,h6,h7⟩
theorem Gy.size {w0:World}{t N:Nat}{A:Option Addr}{n:Nat}{b:List Int}{w:World}(h:Gy w0 t N A n b w):N < w.heap.size:=h.1.lt
theorem SI {w0:World}{t N:Nat}{A:Option Addr}{n:Nat}{b:List Int}{w:World}(h:Gy w0 t N A n b w) (v0 v1 v2 v3:Value) :
  Tab ((((w.setCell ⟨N,0,none⟩ v0).setCell ⟨N,1,none⟩ v1).setCell ⟨N,2,none⟩ v2).setCell ⟨N,3,none⟩ v3) t∧Bar [t] w0 ((((w.setCell ⟨N,0,none⟩ v0).setCell ⟨N,1,none⟩ v1).setCell ⟨N,2,none⟩ v2).setCell ⟨N,3,none⟩ v3):=by
 obtain⟨h1,h2,h3,h4,h5,h6,-⟩:=h
 have hb:=(sG h1 v0 v1 v2 v3).2
 exact⟨h3.bar hb (by rw[List.mem_singleton];omega),h4.trans hb (by intro x hx;rw[List.mem_singleton] at hx;omega)⟩
theorem L9 {w0:World}{t N:Nat}{A:Option Addr}{n:Nat}{b:List Int}{w:World}(h:Gy w0 t N A n b w) (hk:¬ codeOk b) :
  GetPost t (getF b) w0 (.returned (.tuple #[.agg #[.int .i64 0,.int .i64 0,.int .i64 0,.slice none 0 0],.int .i64 0,.int .i64 2])) ((((w.setCell ⟨N,0,none⟩ (.int .i64 0)).setCell ⟨N,1,none⟩ (.int .i64 0)).setCell ⟨N,2,none⟩ (.int .i64 0)).setCell ⟨N,3,none⟩ (.slice none 0 0)):=by
 have hp:=SI h (.int .i64 0) (.int .i64 0) (.int .i64 0) (.slice none 0 0)
 rw[WQ h.2.1.2.1 hk]
 exact⟨none,0,0,rfl,Nat.le_refl _,by unfold maxLen;omega,Rd.nil_,fun F _=>.inl rfl,hp.1,hp.2⟩
theorem uM (w : World) (t : Nat) (b : List Int) (A:Option Addr) (n c:Nat) (ht:Tab w t) (hr:Rd w A n b) (hc:n≤c) (hn:n≤1000000) :
    Calls Tryz.prog 120 #[.pointer (some ⟨t,0,none⟩),.slice A n c] w (GetPost t (getF b) w):=by
  obtain⟨N,hN⟩:∃ N,w.heap.size=N:=⟨_,rfl⟩
  have htN:t < N:=by rw[← hN];exact ht.lt
  have hlen:=hr.1
  have hby:=ae.mk hr.2.1
  have b1:Below N w (w.alloc (.cells #[.int .i64 0,.int .i64 0,.int .i64 0,.slice none 0 0] 231)):=(Below.refl _ _).alloc (by omega) _
  have G1:ae (Gy w t N A n b (w.alloc (.cells #[.int .i64 0,.int .i64 0,.int .i64 0,.slice none 0 0] 231))) :=
    ⟨Blk.new_at _ _ _ _ hN.symm,hr.below (by rw[hN];exact b1),ht.below b1 htN,barOf (hN.symm▸b1) _,hN,htN,fun F hF=>hr.off (by rw[hN];exact hF)⟩
  clear b1 ht hr
  go_enter Tryz.func120,Tryz.ntmps120
  go_wp2_with fail
  generalize w.alloc (.cells #[.int .i64 0,.int .i64 0,.int .i64 0,.slice none 0 0] 231)=w1 at *
  have c1:=EH A n c 1 b w1 G1.out.2.1 hc hn (by omega) (by omega)
  rw[show ((1:Nat):Int)=1 from rfl] at c1
  refine c1.mono ?_
  clear c1
  rintro x w2 (⟨hok,A2,n2,c2,hn2,rfl,k1,k2,r2,-,b2⟩|⟨hok,rfl,b2⟩)
  · obtain ⟨hl64,hat0⟩:=EJ.1 hok
    have G2:=ae.mk (G1.out.below b2)
    obtain rfl:n2=63:=hn2
    have hs16:=dE A2 63 c2 16 (by omega) 16 rfl
    have c3:=ae.mk (lL A2 c2 (iD b) w2 (r2.upto (m:=16) (by omega)))
    clear b2 r2 G1 hok
    go_wp2_with fail
    refine c3.out.mono ?_
    clear c3
    rintro x w3 ⟨rfl,b3⟩
    have G3:=ae.mk (G2.out.below b3)
    rw[← LD,← LG,← LH,← nC]
    clear b3 G2 hs16
    by_cases hh:qQ (iD b)
    · rw[show decide (qQ (iD b))=true from decide_eq_true hh]
      have hq6:fN b≤60000:=by rw[nC];exact hh.2.2
      have hSq:=EF hq6
      have hSi : sectorsF (fN b) = (sOf b : Int) := by unfold sOf;have:0≤sectorsF (fN b):=by unfold sectorsF;split<;>omega
                                                       omega
      have CK:ae (codeOk b ↔ lF b (sOf b)=true∧sameB (((allF b (sOf b)).take 24).drop 16) ((sha ((allF b (sOf b)).take 16++fB b)).take 8)=true∧oG ((allF b (sOf b)).drop (24+fN b))=true):=⟨by
        unfold codeOk lF sameB oG
        rw[decide_eq_true_iff,decide_eq_true_iff,decide_eq_true_iff]
        constructor
        · rintro ⟨-,-,-,h4,h5,h6,h7⟩;exact⟨⟨h4,h5⟩,h6,h7⟩
        · rintro ⟨⟨h4,h5⟩,h6,h7⟩;exact⟨hl64,hat0,hh,h4,h5,h6,h7⟩⟩
      have hfb:((allF b (sOf b)).take (24+fN b)).drop 24=fB b:=rfl
      have HFB:=ae.mk hfb
      have GY:=ae.mk fun h=>UX hby.out (b:=b) h
      have cs:=ae.mk fun w=>dP (fN b) w
      rw[hSi] at cs
      have hS1:1≤sOf b:=by omega
      have hS9:sOf b≤1000:=by omega
      have HQ:ae (24+fN b≤63 * sOf b):=⟨by omega⟩
      have cl:=ae.mk fun (w4:World) (h:Gy w t N A n b w4)=>EH A n c (sOf b) b w4 h.2.1 hc hn hS1 (by omega)
      obtain⟨T,hT⟩:∃ T,w3.heap.size=T:=⟨_,rfl⟩
      have hNT:N < T:=by rw[← hT];exact G3.out.size
      have G4:ae (Gy w t N A n b (w3.alloc (.cells #[.int .i64 (fK b),.int .i64 (fG b),.int .i64 (fS b),.slice none 0 0] 231))):=⟨G3.out.below ((Below.refl _ _).alloc (Nat.le_refl _) _)⟩
      have F4:ae (Blk (w3.alloc (.cells #[.int .i64 (fK b),.int .i64 (fG b),.int .i64 (fS b),.slice none 0 0] 231)) T 231 #[.int .i64 (fK b),.int .i64 (fG b),.int .i64 (fS b),.slice none 0 0]):=⟨Blk.new_at _ _ _ _ hT.symm⟩
      have hT4:T < (w3.alloc (.cells #[.int .i64 (fK b),.int .i64 (fG b),.int .i64 (fS b),.slice none 0 0] 231)).heap.size:=F4.out.lt
      clear hSq hSi hh hfb G3
      obtain⟨q,hq⟩:∃ q,fN b=q:=⟨_,rfl⟩
      rw[hq] at CK HFB cs HQ hq6 ⊢
      obtain⟨S,hSS⟩:∃ S,sOf b=S:=⟨_,rfl⟩
      rw[hSS] at CK HFB cs HQ cl hS1 hS9
      go_wp2_with fail
      generalize w3.alloc (.cells #[.int .i64 (fK b),.int .i64 (fG b),.int .i64 (fS b),.slice none 0 0] 231)=w4 at *
      refine(cs.out _).mono ?_
      clear cs
      rintro x w' ⟨rfl,rfl⟩
      go_wp2_with fail
      refine(cl.out _ G4.out).mono ?_
      clear cl
      rintro x w5 (⟨hok,A5,n5,c5,hn5,rfl,k1,k2,r5,of5,b5⟩|⟨hok,rfl,b5⟩)
      · rw[hok] at CK
        subst hn5
        have HX:ae ((allF b S).length=63 * S):=⟨r5.1⟩
        have HQ2:=HQ.out
        obtain⟨X,hX⟩:∃ X,allF b S=X:=⟨_,rfl⟩
        rw[hX] at CK HFB HX r5
        obtain⟨A6,hs6,r6,of6⟩:=pU r5 k1 16 24 (by omega) (by omega) 16 24 rfl rfl
        obtain⟨A7,hs7,r7,of7⟩:=pU r5 k1 24 (24+q) (by omega) (by omega) 24 (24+(q:Int)) rfl (by omega)
        obtain⟨A8,hs8,r8,of8⟩:=jh r5 k1 (24+q) (by omega) (24+(q:Int)) (by omega)
        rw[HFB.out,Nat.add_sub_cancel_left] at r7
        rw[Nat.add_sub_cancel_left] at hs7 of7
        rw[show 24 - 16=8 from rfl] at hs6 r6 of6
        have hs5:=dE A5 (63 * S) c5 16 (by omega) 16 rfl
        have R5:=ae.mk (r5.upto (m:=16) (by omega))
        have R6:=ae.mk r6;have R7:=ae.mk r7;have R8:=ae.mk r8
        have of5T:Off A5 (63 * S) [T]:=of5 [T] (by intro k hk;rw[List.mem_singleton] at hk;omega)
        have OF5:ae (Off A5 16 [T]):=⟨by
          rcases of5T with h|h
          · omega
          · exact .inr h⟩
        have OF6:=ae.mk (of6 _ of5T);have OF7T:=ae.mk (of7 _ of5T);have OF8:=ae.mk (of8 _ of5T)
        have OF7:ae (∀ F:List Nat,(∀ k∈F,k < T)→Off A7 q F):=⟨fun F hF=>of7 F (of5 F (fun k hk=>by have:=hF k hk;omega))⟩
        have G5:=ae.mk (G4.out.below b5)
        have F5:=ae.mk (F4.out.below b5 hT4)
        have W24:IntKind.i64.wrap (24+(q:Int))=24+q:=by simp only[IntKind.wrap_i64];omega
        clear r5 r6 r7 r8 of5 of6 of7 of8 of5T b5 G4 F4 hX hok
        go_wp2
        go_quiet (fail)
        have G6:ae (Gy w t N A n b (w5.drewN nq)):=⟨G5.out.below (below_drewN (Below.refl _ _) _)⟩
        have F6:ae (Blk (w5.drewN nq) T 231 #[.int .i64 (fK b),.int .i64 (fG b),.int .i64 (fS b),.slice none 0 0]):=⟨F5.out.drewN _⟩
        have R5a:ae (Rd (w5.drewN nq) A5 16 (X.take 16)):=⟨R5.out.below (below_drewN (Below.refl _ _) _)⟩
        have R6a:ae (Rd (w5.drewN nq) A6 8 ((X.take 24).drop 16)):=⟨R6.out.below (below_drewN (Below.refl _ _) _)⟩
        have R7a:ae (Rd (w5.drewN nq) A7 q (fB b)):=⟨R7.out.below (below_drewN (Below.refl _ _) _)⟩
        have R8a:ae (Rd (w5.drewN nq) A8 (63 * S - (24+q)) (X.drop (24+q))):=⟨R8.out.below (below_drewN (Below.refl _ _) _)⟩
        clear G5 F5 R5 R6 R7 R8
        generalize w5.drewN nq=w6 at *
        have f3:=F6.out.cell 3
        have y3:=F6.out.frozen 3
        have hb7:Bar [T] w6 (w6.setCell ⟨T,3,none⟩ (.slice A7 q (c5 - 24))):=(Bar.refl _ _).setCell (by simp) _
        have G7:=ae.mk (G6.out.set hNT 3 (.slice A7 q (c5 - 24)))
        have F7:ae (Blk (w6.setCell ⟨T,3,none⟩ (.slice A7 q (c5 - 24))) T 231 #[.int .i64 (fK b),.int .i64 (fG b),.int .i64 (fS b),.slice A7 q (c5 - 24)]):=⟨F6.out.set_ 3 _⟩
        have R5:=ae.mk (R5a.out.far hb7 OF5.out)
        have R6:=ae.mk (R6a.out.far hb7 OF6.out)
        have R7:=ae.mk (R7a.out.far hb7 OF7T.out)
        have R8:=ae.mk (R8a.out.far hb7 OF8.out)
        have f7:=F7.out.cell 3
        clear hb7 R5a R6a R7a R8a G6 F6 OF5 OF6 OF7T OF8
        have c8:=ae.mk (EI t A5 A7 16 c5 q (c5 - 24) (X.take 16) (fB b) (w6.setCell ⟨T,3,none⟩ (.slice A7 q (c5 - 24))) G7.out.2.2.1 R5.out R7.out (by omega) k2 (by omega) (by omega) (by omega) (by omega))
        go_wp2_with fail
        refine c8.out.mono ?_
        clear c8 f3 y3 f7
        generalize w6.setCell ⟨T,3,none⟩ (.slice A7 q (c5 - 24))=w7 at *
        rintro x w8 ⟨M,rfl,hM,r8,t8,b8⟩
        have hTt:T∉[t]:=by rw[List.mem_singleton];omega
        have G8:=ae.mk (G7.out.tab b8 t8)
        have F8:=ae.mk (F7.out.bar b8 hTt)
        have R7b:=ae.mk (R7.out.tab G7.out.2.2.1 b8)
        have R8b:=ae.mk (R8.out.tab G7.out.2.2.1 b8)
        have c9:=ae.mk (Ho A6 (some ⟨M,0,none⟩) 8 8 (c5 - 16) 32 _ _ w8 (R6.out.tab G7.out.2.2.1 b8) r8)
        have c10:=ae.mk (N7 A8 (63 * S - (24+q)) (c5 - (24+q)) (X.drop (24+q)) w8 R8b.out (by omega))
        clear r8 t8 b8 R5 R6 R7 R8 G7 F7 hTt R8b
        cases hsm:sameB ((X.take 24).drop 16) ((sha (X.take 16++fB b)).take 8) with
        | false =>
          rw[hsm] at c9
          have hno:¬ codeOk b:=fun h=>by
            have:=(CK.out.1 h).2.1
            rw[hsm] at this
            cases this
          have GG:=G8.out
          go_wp2_with fail
          refine c9.out.mono ?_
          rintro x w' ⟨rfl,rfl⟩
          clear c9 c10 hsm F8 R7b CK HFB GY HQ OF7 G8
          have P4:=ae.mk (sG GG.1 (.int .i64 0) (.int .i64 0) (.int .i64 0) (.slice none 0 0)).1
          have PF:=ae.mk (L9 GG hno)
          have g0:=GG.1.cell 0;have g1:=GG.1.cell 1;have g2:=GG.1.cell 2;have g3:=GG.1.cell 3
          have z0:=GG.1.frozen 0;have z1:=GG.1.frozen 1;have z2:=GG.1.frozen 2;have z3:=GG.1.frozen 3
          clear GG hno HX
          go_wp2
          (try simp only[Exit.inBlock,Exit.then])
          refine bodyPost_ret (az rfl _ _ N 231 #[.int .i64 0,.int .i64 0,.int .i64 0,.slice none 0 0] (0,0) _ rfl P4.out Tryz.underlying231 rfl bC) rfl ?_
          exact PF.out
        | true =>
          rw[hsm] at c9
          cases hbl:oG (X.drop (24+q)) with
          | false =>
            rw[hbl] at c10
            have hno:¬ codeOk b:=fun h=>by
              have:=(CK.out.1 h).2.2
              rw[hbl] at this
              cases this
            have GG:=G8.out
            go_wp2_with fail
            refine c9.out.mono ?_
            rintro x w' ⟨rfl,rfl⟩
            clear c9
            go_wp2_with fail
            refine c10.out.mono ?_
            rintro x w' ⟨rfl,rfl⟩
            clear c10 hsm hbl F8 R7b CK HFB GY HQ OF7 G8
            have P4:=ae.mk (sG GG.1 (.int .i64 0) (.int .i64 0) (.int .i64 0) (.slice none 0 0)).1
            have PF:=ae.mk (L9 GG hno)
            have g0:=GG.1.cell 0;have g1:=GG.1.cell 1;have g2:=GG.1.cell 2;have g3:=GG.1.cell 3
            have z0:=GG.1.frozen 0;have z1:=GG.1.frozen 1;have z2:=GG.1.frozen 2;have z3:=GG.1.frozen 3
            clear GG hno HX
            go_wp2
            (try simp only[Exit.inBlock,Exit.then])
            refine bodyPost_ret (az rfl _ _ N 231 #[.int .i64 0,.int .i64 0,.int .i64 0,.slice none 0 0] (0,0) _ rfl P4.out Tryz.underlying231 rfl bC) rfl ?_
            exact PF.out
          | true =>
            rw[hbl] at c10
            have hyes:codeOk b:=CK.out.2 ⟨by simp,hsm,hbl⟩
            have GG:=G8.out
            have P4:=ae.mk (sG GG.1 (.int .i64 (fK b)) (.int .i64 (fG b)) (.int .i64 (fS b)) (.slice A7 q (c5 - 24)))
            have PF:ae (GetPost t (getF b) w (.returned (.tuple #[.agg #[.int .i64 (fK b),.int .i64 (fG b),.int .i64 (fS b),.slice A7 q (c5 - 24)],.int .i64 S,.int .i64 0])) ((((w8.setCell ⟨N,0,none⟩ (.int .i64 (fK b))).setCell ⟨N,1,none⟩ (.int .i64 (fG b))).setCell ⟨N,2,none⟩ (.int .i64 (fS b))).setCell ⟨N,3,none⟩ (.slice A7 q (c5 - 24)))):=by
              refine⟨?_⟩
              have hp:=SI GG (.int .i64 (fK b)) (.int .i64 (fG b)) (.int .i64 (fS b)) (.slice A7 q (c5 - 24))
              rw[GY.out hyes,hSS]
              refine⟨A7,q,c5 - 24,rfl,by have:=HQ.out;omega,by unfold maxLen;omega,R7b.out.far P4.out.2 (OF7.out [N] (by intro k hk;rw[List.mem_singleton] at hk;omega)),fun F hF=>OF7.out F (fun k hk=>by have:=hF k hk;omega),hp.1,hp.2⟩
            have g0:=GG.1.cell 0;have g1:=GG.1.cell 1;have g2:=GG.1.cell 2;have g3:=GG.1.cell 3
            have z0:=GG.1.frozen 0;have z1:=GG.1.frozen 1;have z2:=GG.1.frozen 2;have z3:=GG.1.frozen 3
            have t0:=F8.out.cell 0;have t1:=F8.out.cell 1;have t2:=F8.out.cell 2;have t3:=F8.out.cell 3
            clear hyes GG G8 F8 R7b CK HFB GY HQ OF7 hsm hbl HX
            go_wp2_with fail
            refine c9.out.mono ?_
            rintro x w' ⟨rfl,rfl⟩
            clear c9
            go_wp2_with fail
            refine c10.out.mono ?_
            rintro x w' ⟨rfl,rfl⟩
            clear c10
            go_wp2
            (try simp only[Exit.inBlock,Exit.then])
            refine bodyPost_ret (az rfl _ _ N 231 #[.int .i64 (fK b),.int .i64 (fG b),.int .i64 (fS b),.slice A7 q (c5 - 24)] (0,0) _ rfl P4.out.1 Tryz.underlying231 rfl bC) rfl ?_
            exact PF.out
      · have hno:¬ codeOk b:=fun h=>by
          have:=(CK.out.1 h).1
          rw[hok] at this
          cases this
        have GG:=G4.out.below b5
        have P4:=ae.mk (sG GG.1 (.int .i64 0) (.int .i64 0) (.int .i64 0) (.slice none 0 0)).1
        have PF:=ae.mk (L9 GG hno)
        have g0:=GG.1.cell 0;have g1:=GG.1.cell 1;have g2:=GG.1.cell 2;have g3:=GG.1.cell 3
        have z0:=GG.1.frozen 0;have z1:=GG.1.frozen 1;have z2:=GG.1.frozen 2;have z3:=GG.1.frozen 3
        clear GG hno G4 F4 b5 hok CK HFB GY HQ hS1 hS9 hq6
        go_wp2
        (try simp only[Exit.inBlock,Exit.then])
        refine bodyPost_ret (az rfl _ _ N 231 #[.int .i64 0,.int .i64 0,.int .i64 0,.slice none 0 0] (0,0) _ rfl P4.out Tryz.underlying231 rfl bC) rfl ?_
        exact PF.out
    · rw[show decide (qQ (iD b))=false from decide_eq_false hh]
      have hno:¬ codeOk b:=fun h=>hh h.2.2.1
      obtain⟨T,hT⟩:∃ T,w3.heap.size=T:=⟨_,rfl⟩
      have GG:Gy w t N A n b (w3.alloc (.cells #[.int .i64 (fK b),.int .i64 (fG b),.int .i64 (fS b),.slice none 0 0] 231)):=G3.out.below ((Below.refl _ _).alloc (Nat.le_refl _) _)
      have P4:=ae.mk (sG GG.1 (.int .i64 0) (.int .i64 0) (.int .i64 0) (.slice none 0 0)).1
      have PF:=ae.mk (L9 GG hno)
      have g0:=GG.1.cell 0;have g1:=GG.1.cell 1;have g2:=GG.1.cell 2;have g3:=GG.1.cell 3
      have z0:=GG.1.frozen 0;have z1:=GG.1.frozen 1;have z2:=GG.1.frozen 2;have z3:=GG.1.frozen 3
      clear GG hno G3 hh
      go_wp2
      (try simp only[Exit.inBlock,Exit.then])
      refine bodyPost_ret (az rfl _ _ N 231 #[.int .i64 0,.int .i64 0,.int .i64 0,.slice none 0 0] (0,0) _ rfl P4.out Tryz.underlying231 rfl bC) rfl ?_
      exact PF.out
  · have hno:¬ codeOk b:=fun h=>by
      have:=EJ.2 ⟨h.1,h.2.1⟩
      rw[hok] at this
      cases this
    have G2:=G1.out.below b2
    have P4:=ae.mk (sG G2.1 (.int .i64 0) (.int .i64 0) (.int .i64 0) (.slice none 0 0)).1
    have PF:=ae.mk (L9 G2 hno)
    have g0:=G2.1.cell 0;have g1:=G2.1.cell 1;have g2:=G2.1.cell 2;have g3:=G2.1.cell 3
    have z0:=G2.1.frozen 0;have z1:=G2.1.frozen 1;have z2:=G2.1.frozen 2;have z3:=G2.1.frozen 3
    clear G1 G2 b2 hok hno
    go_wp2
    (try simp only[Exit.inBlock,Exit.then])
    refine bodyPost_ret (az rfl _ _ N 231 #[.int .i64 0,.int .i64 0,.int .i64 0,.slice none 0 0] (0,0) _ rfl P4.out Tryz.underlying231 rfl bC) rfl ?_
    exact PF.out
end Frame
end Go.Proofs.YtlkeieoecfkkeaaGreat
