/-
  Parts laid together: VaultC2 VaultC3 VaultC4.
-/
import Derived.Test.YtlkeieoecfkkeaaGreatPart20
import Derived.Test.YtlkeieoecfkkeaaGreatPart22
set_option maxRecDepth 100000
set_option maxHeartbeats 2000000
namespace Go.Proofs.YtlkeieoecfkkeaaGreat
namespace Vault
open Go.RowKit Num Sha Purse Escrow Wire Req Disk Go.Proofs.YtlkeieoecfkkeaaGreat.Frame
section
variable {w : World}
theorem take_at {l:List Int}{k:Nat}(hk:k < l.length):l[k]?=some (at_ l k):=by
 unfold at_
 rw[List.getD_eq_getElem?_getD,List.getElem?_eq_getElem hk];rfl
theorem JS {F:List Nat}{e:Nat}{l b:List Int}{A:Option Addr}{n c:Nat}(h:En 301 w F e (0,l)) (r:Rd w A n b) (o:Off A n F) (hl:l.length+n≤2000000000) :
  Calls Tryz.prog 210 #[.pointer (some ⟨e,0,none⟩),.slice A n c] w fun y w'=>y=.returned (.tuple #[])∧∃ F',En 301 w' F' e (0,l++b)∧Fp F F' w w':=by
 have L0:ae (En 301 w F e (0,l++b.take 0)):=⟨by rw[List.take_zero,List.append_nil];exact h⟩
 have FP:ae (Fp F F w w):=⟨Fp.refl _ _⟩
 have RD:=ae.mk r;have OFF:=ae.mk o
 have HLB:=ae.mk r.1
 have HB:=ae.mk r.2.1
 clear h r o
 go_enter Tryz.func210,Tryz.ntmps210
 go_wp2
 go_loopw [8] (fun i wr=>∃ (k:Nat) (F2:List Nat),k≤n∧i=.int .i64 k∧ae (En 301 wr F2 e (0,l++b.take k))∧ae (Fp F F2 w wr)∧ae (Rd wr A n b)∧ae (Off A n F2)) (fun i _=>n - (Go.RowKit.intOf i).toNat)
 case atStart=>exact⟨0,F,by omega,rfl,L0,FP,RD,OFF⟩
 case round =>
  clear L0 FP RD OFF
  obtain⟨k,F2,hk,rfl,L,FP,RD,OFF⟩:=hrel
  by_cases hkm:k < n
  ·have hkm':(k:Int) < n:=by omega
   obtain⟨g,go,rfl,hcell⟩:∃ g go,A=some ⟨g,go,none⟩∧wr.cell? ⟨g,go+k,none⟩=some (.int .u8 (at_ b k)):=by
    rcases RD.out.2.2 with h0|⟨g,go,hA,hc⟩
    ·omega
    ·exact⟨g,go,hA,hc k hkm⟩
   have hat:=take_at (l:=b) (k:=k) (by rw[HLB.out];exact hkm)
   obtain⟨z,hz⟩:∃ z,at_ b k=z:=⟨_,rfl⟩
   rw[hz] at hcell hat
   obtain⟨hz0,hz1⟩:0≤z∧z≤255:=by
    have:=HB.out z (List.mem_of_getElem? hat)
    exact⟨this.1,by omega⟩
   have HT:=ae.mk (Ledger.mf hat)
   have KN:=aP wr F2 e z 1 (0,l++b.take k) L.out (by simp only[List.length_append,List.length_take];omega)
   rw[Ledger.Qa _ z ⟨hz0,hz1⟩,List.append_assoc,← HT.out] at KN
   have KN2:=ae.mk KN
   clear KN hat hz
   go_wp2_with fail
   refine KN2.out.mono ?_
   rintro y w3 ⟨rfl,F3,he,fp⟩
   replace L:=ae.mk he
   have OFF3:=ae.mk (OFF.out.step RD.out fp)
   replace RD:=ae.mk (RD.out.far fp.1 OFF.out)
   replace FP:=ae.mk (FP.out.trans fp)
   clear KN2 he fp OFF hcell hz0 hz1
   go_wp2
   go_roundw
   case rel=>exact⟨k+1,F3,by omega,by go_num,L,FP,RD,OFF3⟩
   case measure=>simp[Go.RowKit.intOf];omega
  ·have hkm':¬ (k:Int) < n:=by omega
   obtain rfl:k=n:=by omega
   go_wp2
   first|go_end0|(simp only[Exit.inBlock,Exit.then];refine bodyPost_ret (results_none rfl _ _ _) rfl ?_)|refine bodyPost_ret (results_none rfl _ _ _) rfl ?_
   refine⟨rfl,F2,?_,FP.out⟩
   have:=L.out
   rwa [List.take_of_length_le (by rw[HLB.out];exact Nat.le_refl _)] at this
theorem enc4 (l:List Int) {z:Int}(h:0≤z∧z≤4294967295):encNum (0,l) z 4=(0,l++be z.toNat 4):=by
 rw[Eb,nZ _ _ (Journal.dO z)]
 unfold wr
 rw[if_pos rfl,if_pos h]
 rfl
def vP (b:List Int) (w:World) (e:Ending) (w':World):Prop:=∃ A c,e=.returned (.tuple #[.slice A b.length c,.int .i64 0])∧b.length≤c∧c≤9223372036854775807∧Rd w' A b.length b∧Ledger.jK w [] A∧Below w.heap.size w w'
theorem vS {w w1:World}{F:List Nat}{E:Nat}{l l':List Int}{z s:Int}(he:En 301 w1 F E (0,l)) (hs:encNum (0,l) z s=(0,l')) (hl:l.length≤2000000000) (B:Below w.heap.size w w1) (A:∀ k∈F,w.heap.size≤k) :
  Calls Tryz.prog 164 #[.pointer (some ⟨E,0,none⟩),.int .i64 z,.int .i64 s] w1 fun y w2=>y=.returned (.tuple #[])∧∃ F2,En 301 w2 F2 E (0,l')∧Below w.heap.size w w2∧(∀ k∈F2,w.heap.size≤k):=by
 have K:=aP w1 F E z s (0,l) he (by show l.length≤_;omega)
 rw[hs] at K
 refine K.mono ?_
 rintro y w2 ⟨rfl,F2,h2,fp⟩
 exact⟨rfl,F2,h2,B.trans (fp.below A B.size),fp.least A B.size⟩
theorem Wl {A:Option Addr}{n:Nat}{xs:List Int}{F:List Nat}(h:Rd w A n xs) (hF:∀ k∈F,w.heap.size≤k):Off A n F:=by
 by_cases h0:n=0
 ·exact .inl h0
 ·rcases h.2.2 with h1|⟨g,go,e,hc⟩
  ·exact .inl h1
  ·refine .inr ⟨g,go,e,fun hm=>?_⟩
   have:=World.block_lt_of_cell? _ _ (hc 0 (by omega))
   have:=hF g hm
   simp at *
   omega
theorem BF {p:Nat}{seq at_:Int}{b:List Int}{A:Option Addr}{n c:Nat}(r:Rd w A n b) (hp:p < 256) (hq:0≤seq∧seq≤4294967295) (ht:Tck at_) (hn:n≤100000) :
  Calls Tryz.prog 177 #[.int .i64 p,.int .i64 seq,.int .i64 at_,.slice A n c] w (vP (recV p seq at_ b) w):=by
 have RD:=ae.mk r
 have H1:=ae.mk (Ledger.enc1 [] (z:=(p:Int)) (show B8 (p:Int) by unfold B8;omega))
 have H2:=ae.mk (enc4 (be p 1) hq)
 have H3:=ae.mk (Ledger.enc8 (be p 1++be seq.toNat 4) ht.amt)
 have HLB:=ae.mk r.1
 have HRB:=ae.mk (nz (p:=p) (seq:=seq) (at_:=at_) r.2.1)
 have HRL:=ae.mk (lC p seq at_ b)
 have KN:=ae.mk (gW w)
 rw[List.nil_append] at H1
 obtain⟨E,hE⟩:∃ E,w.heap.size=E:=⟨_,rfl⟩
 have HE:=ae.mk hE
 clear r hE
 unfold vP
 go_enter Tryz.func177,Tryz.ntmps177
 go_wp2_with fail
 refine KN.out.mono ?_
 rintro y w1 ⟨rfl,he,fp⟩
 have B:=ae.mk (fp.below (B:=w.heap.size) (by simp) (Nat.le_refl _))
 have AF:=ae.mk (fp.least (B:=w.heap.size) (by simp) (Nat.le_refl _))
 have K1:=ae.mk (vS he H1.out (by simp) B.out AF.out)
 rw[HE.out] at K1 ⊢
 clear KN he fp B AF
 go_wp2_with fail
 refine K1.out.mono ?_
 rintro y w2 ⟨rfl,F2,he,hb,ha⟩
 have K2:=ae.mk (vS he H2.out (by simp[aJ]) (by rw[HE.out];exact hb) (by rw[HE.out];exact ha))
 clear K1 he hb ha
 go_wp2_with fail
 refine K2.out.mono ?_
 rintro y w3 ⟨rfl,F3,he,hb,ha⟩
 have K3:=ae.mk (vS he H3.out (by simp[aJ]) hb ha)
 clear K2 he hb ha
 go_wp2_with fail
 refine K3.out.mono ?_
 rintro y w4 ⟨rfl,F4,he,hb,ha⟩
 have B4:=ae.mk hb;have A4:=ae.mk ha
 have R4:=ae.mk (RD.out.below hb)
 have K4:=ae.mk (JS (c:=c) he R4.out (Wl RD.out A4.out) (by simp only[List.length_append,aJ];omega))
 clear K3 he hb ha
 go_wp2_with fail
 refine K4.out.mono ?_
 rintro y w5 ⟨rfl,F5,he,fp⟩
 have B5:=ae.mk (B4.out.trans (fp.below A4.out B4.out.size))
 have e:be p 1++be seq.toNat 4++be at_.toNat 8++b=recV p seq at_ b:=by simp only[recV,List.append_assoc]
 rw[e] at he
 have KD:=ae.mk (lU w5 F5 E (0,recV p seq at_ b) he HRB.out (by rw[HRL.out,HLB.out];omega))
 clear K4 he fp e B4 A4 R4
 go_wp2_with fail
 refine KD.out.mono ?_
 rintro y w6 ⟨v6,rfl,own,b6⟩
 obtain⟨A6,c6,rfl,h1,h2,r6⟩:=aO own HRB.out
 have R6:=ae.mk r6
 have NW:ae (∀ b o,A6=some ⟨b,o,none⟩→w.heap.size≤b):=⟨fun b o hh=>by subst hh;have h1:=B5.out.size;have h3:=(own.lt b rfl).1;omega⟩
 have B6:=ae.mk (B5.out.trans (b6.mono B5.out.size))
 clear KD own b6 r6
 go_wp2
 go_ret2
 exact⟨A6,c6,rfl,h1,h2,R6.out,fun b o hh=>⟨NW.out b o hh,by simp⟩,B6.out⟩
end
section
variable {w : World}
theorem BG {α:Type}{C:α→List Value}{z n:Nat}{w w':World}{A:Option Addr}{l:List α}{F F':List Nat}(h:Rc C z w A n l) (hC:∀ x,C x≠[]) (o:Off A n F) (fp:Fp F F' w w'):Off A n F':=by
 rcases o with h0|⟨g,go,e,hg⟩
 ·exact .inl h0
 ·by_cases h0:n=0
  ·exact .inl h0
  ·obtain⟨b,o',x,hA,-,hc⟩:=h.at_ (k:=0) (by omega)
   refine .inr ⟨g,go,e,fun hm=>?_⟩
   rw[e] at hA
   injection hA with hA;injection hA with e1 e2
   subst e1
   rcases fp.2 g hm with q|q
   ·exact hg q
   ·cases hcx:C x with
    | nil=>exact hC x hcx
    | cons v r =>
     have:=World.block_lt_of_cell? _ _ (hc 0 v (by rw[hcx];rfl))
     simp at *
     omega
theorem Sm (x:PV):pvC x≠[]:=by simp[pvC]
end
section
variable {w : World} {HJ FL I : List Nat} {x t d j y n : Nat} {lv : Value} {l : List (TV × LM)} {m : MV} {s0 : Ledger.LS}
theorem Vp.below {w':World}(h:Vp w x t d j y n HJ FL I lv l m) (b:Below w.heap.size w w'):Vp w' x t d j y n HJ FL I lv l m:=h.keep (barOf b []) (fun _ _=>by simp)
theorem Vp.cells {w':World}(h:Vp w x t d j y n HJ FL I lv l m) (b:Below w.heap.size w w') {k:Nat}(hk:k < m.v.t.length) {A:Option Addr}{c:Nat}(hlv:lv=.slice A m.v.t.length c):∃ g go q,A=some ⟨g,go,none⟩∧El w I (tAt m.v k,q)∧El w' I (tAt m.v k,q) ∧
  ∀ i u,(lastC (tAt m.v k,q))[i]?=some u→w'.cell? ⟨g,go+k * 6+i,none⟩=some u:=by
 obtain⟨q,hq,el⟩:=h.at_ hk
 have h':=h.below b
 obtain⟨A2,c2,e2,-,-,-,hrc⟩:=h'.list
 rw[hlv] at e2
 injection e2 with e2 _ _
 subst e2
 obtain⟨g,go,z,hA,hz,hzc⟩:=hrc.at_ hk
 rw[hq] at hz
 injection hz with hz
 subst hz
 exact⟨g,go,q,hA,el,el.keep (barOf b []) (fun _ _=>by simp),hzc⟩
end
end Vault
end Go.Proofs.YtlkeieoecfkkeaaGreat
