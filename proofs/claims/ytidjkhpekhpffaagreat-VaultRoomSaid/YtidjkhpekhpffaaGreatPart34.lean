/-
  Parts laid together: VaultC2 VaultC3 VaultC4.
-/
import Derived.Test.YtidjkhpekhpffaaGreatPart25
import Derived.Test.YtidjkhpekhpffaaGreatPart33
namespace Go.Proofs.YtidjkhpekhpffaaGreat.Vault
open Go.RowKit Go.Proofs.YtidjkhpekhpffaaGreat.Num Go.Proofs.YtidjkhpekhpffaaGreat.Sha Go.Proofs.YtidjkhpekhpffaaGreat.Purse Go.Proofs.YtidjkhpekhpffaaGreat.Escrow Go.Proofs.YtidjkhpekhpffaaGreat.Wire Go.Proofs.YtidjkhpekhpffaaGreat.Req Go.Proofs.YtidjkhpekhpffaaGreat.Disk Go.Proofs.YtidjkhpekhpffaaGreat.Frame
section
variable {w : World}
theorem take_at {l:List Int}{k:Nat}(hk:k < l.length):l[k]?=some (at_ l k):=by
 unfold at_
 rw[List.getD_eq_getElem?_getD,List.getElem?_eq_getElem hk];rfl
set_option maxRecDepth 100000 in
set_option maxHeartbeats 2000000 in
theorem vputb_any {F:List Nat}{e:Nat}{l b:List Int}{A:Option Addr}{n c:Nat}(h:En 233 w F e (0,l)) (r:Rd w A n b) (o:Off A n F) (hl:l.length+n≤2000000000) :
  Calls Tryz.prog 163 #[.pointer (some ⟨e,0,none⟩),.slice A n c] w fun y w'=>y=.returned (.tuple #[])∧∃ F',En 233 w' F' e (0,l++b)∧Fp F F' w w':=by
 have L0:Kept (En 233 w F e (0,l++b.take 0)):=⟨by rw[List.take_zero,List.append_nil];exact h⟩
 have FP:Kept (Fp F F w w):=⟨Fp.refl _ _⟩
 have RD:=Kept.mk r;have OFF:=Kept.mk o
 have HLB:=Kept.mk r.1
 have HB:=Kept.mk r.2.1
 clear h r o
 go_enter Tryz.func163,Tryz.ntmps163
 go_wp2
 go_loopw [8] (fun i wr=>∃ (k:Nat) (F2:List Nat),k≤n∧i=.int .i64 k∧Kept (En 233 wr F2 e (0,l++b.take k))∧Kept (Fp F F2 w wr)∧Kept (Rd wr A n b)∧Kept (Off A n F2)) (fun i _=>n - (Go.RowKit.intOf i).toNat)
 case atStart=>exact⟨0,F,by omega,rfl,L0,FP,RD,OFF⟩
 case round =>
  clear L0 FP RD OFF
  obtain⟨k,F2,hk,rfl,L,FP,RD,OFF⟩:=hrel
  by_cases hkm:k < n
  ·have hkm':(k:Int) < n:=by omega
   obtain⟨g,go,rfl,hcell⟩:∃ g go,A=some ⟨g,go,none⟩∧wr.cell? ⟨g,go+k,none⟩=some (.int .u8 (at_ b k)):=by
    rcases RD.out.2.2 with h0|⟨g,go,hA,hc⟩
    ·omega
    ·exact⟨g,go,hA,hc k hkm⟩
   have hat:=take_at (l:=b) (k:=k) (by rw[HLB.out];exact hkm)
   obtain⟨z,hz⟩:∃ z,at_ b k=z:=⟨_,rfl⟩
   rw[hz] at hcell hat
   obtain⟨hz0,hz1⟩:0≤z∧z≤255:=by
    have:=HB.out z (List.mem_of_getElem? hat)
    exact⟨this.1,by omega⟩
   have HT:=Kept.mk (Ledger.ctake_next hat)
   have KN:=num_any wr F2 e z 1 (0,l++b.take k) L.out (by simp only[List.length_append,List.length_take];omega)
   rw[Ledger.enc_byte _ z ⟨hz0,hz1⟩,List.append_assoc,← HT.out] at KN
   have KN2:=Kept.mk KN
   clear KN hat hz
   go_wp2_with fail
   refine KN2.out.mono ?_
   rintro y w3 ⟨rfl,F3,he,fp⟩
   replace L:=Kept.mk he
   have OFF3:=Kept.mk (OFF.out.step RD.out fp)
   replace RD:=Kept.mk (RD.out.far fp.1 OFF.out)
   replace FP:=Kept.mk (FP.out.trans fp)
   clear KN2 he fp OFF hcell hz0 hz1
   go_wp2
   go_roundw
   case rel=>exact⟨k+1,F3,by omega,by go_num,L,FP,RD,OFF3⟩
   case measure=>simp[Go.RowKit.intOf];omega
  ·have hkm':¬ (k:Int) < n:=by omega
   obtain rfl:k=n:=by omega
   go_wp2
   first|go_end0|(simp only[Exit.inBlock,Exit.then];refine bodyPost_ret (results_none rfl _ _ _) rfl ?_)|refine bodyPost_ret (results_none rfl _ _ _) rfl ?_
   refine⟨rfl,F2,?_,FP.out⟩
   have:=L.out
   rwa [List.take_of_length_le (by rw[HLB.out];exact Nat.le_refl _)] at this
theorem enc4 (l:List Int) {z:Int}(h:0≤z∧z≤4294967295):encNum (0,l) z 4=(0,l++be z.toNat 4):=by
 rw[enc_wr,wr_iff _ _ (Journal.fits_four z)]
 unfold wr
 rw[if_pos rfl,if_pos h]
 rfl
def NewBytes (b:List Int) (w:World) (e:Ending) (w':World):Prop:=∃ A c,e=.returned (.tuple #[.slice A b.length c,.int .i64 0])∧b.length≤c∧c≤9223372036854775807∧Rd w' A b.length b∧Ledger.NewRow w [] A∧Below w.heap.size w w'
theorem num_step {w w1:World}{F:List Nat}{E:Nat}{l l':List Int}{z s:Int}(he:En 233 w1 F E (0,l)) (hs:encNum (0,l) z s=(0,l')) (hl:l.length≤2000000000) (B:Below w.heap.size w w1) (A:∀ k∈F,w.heap.size≤k) :
  Calls Tryz.prog 83 #[.pointer (some ⟨E,0,none⟩),.int .i64 z,.int .i64 s] w1 fun y w2=>y=.returned (.tuple #[])∧∃ F2,En 233 w2 F2 E (0,l')∧Below w.heap.size w w2∧(∀ k∈F2,w.heap.size≤k):=by
 have K:=num_any w1 F E z s (0,l) he (by show l.length≤_;omega)
 rw[hs] at K
 refine K.mono ?_
 rintro y w2 ⟨rfl,F2,h2,fp⟩
 exact⟨rfl,F2,h2,B.trans (fp.below A B.size),fp.least A B.size⟩
theorem rd_off {A:Option Addr}{n:Nat}{xs:List Int}{F:List Nat}(h:Rd w A n xs) (hF:∀ k∈F,w.heap.size≤k):Off A n F:=by
 by_cases h0:n=0
 ·exact .inl h0
 ·rcases h.2.2 with h1|⟨g,go,e,hc⟩
  ·exact .inl h1
  ·refine .inr ⟨g,go,e,fun hm=>?_⟩
   have:=World.block_lt_of_cell? _ _ (hc 0 (by omega))
   have:=hF g hm
   simp at *
   omega
set_option maxRecDepth 100000 in
set_option maxHeartbeats 2000000 in
theorem vrecord_any {p:Nat}{seq at_:Int}{b:List Int}{A:Option Addr}{n c:Nat}(r:Rd w A n b) (hp:p < 256) (hq:0≤seq∧seq≤4294967295) (ht:Tck at_) (hn:n≤100000) :
  Calls Tryz.prog 121 #[.int .i64 p,.int .i64 seq,.int .i64 at_,.slice A n c] w (NewBytes (recV p seq at_ b) w):=by
 have RD:=Kept.mk r
 have H1:=Kept.mk (Ledger.enc1 [] (z:=(p:Int)) (show B8 (p:Int) by unfold B8;omega))
 have H2:=Kept.mk (enc4 (be p 1) hq)
 have H3:=Kept.mk (Ledger.enc8 (be p 1++be seq.toNat 4) ht.amt)
 have HLB:=Kept.mk r.1
 have HRB:=Kept.mk (recV_bytes (p:=p) (seq:=seq) (at_:=at_) r.2.1)
 have HRL:=Kept.mk (recV_len p seq at_ b)
 have KN:=Kept.mk (newenc_any w)
 rw[List.nil_append] at H1
 obtain⟨E,hE⟩:∃ E,w.heap.size=E:=⟨_,rfl⟩
 have HE:=Kept.mk hE
 clear r hE
 unfold NewBytes
 go_enter Tryz.func121,Tryz.ntmps121
 go_wp2_with fail
 refine KN.out.mono ?_
 rintro y w1 ⟨rfl,he,fp⟩
 have B:=Kept.mk (fp.below (B:=w.heap.size) (by simp) (Nat.le_refl _))
 have AF:=Kept.mk (fp.least (B:=w.heap.size) (by simp) (Nat.le_refl _))
 have K1:=Kept.mk (num_step he H1.out (by simp) B.out AF.out)
 rw[HE.out] at K1 ⊢
 clear KN he fp B AF
 go_wp2_with fail
 refine K1.out.mono ?_
 rintro y w2 ⟨rfl,F2,he,hb,ha⟩
 have K2:=Kept.mk (num_step he H2.out (by simp[be_len]) (by rw[HE.out];exact hb) (by rw[HE.out];exact ha))
 clear K1 he hb ha
 go_wp2_with fail
 refine K2.out.mono ?_
 rintro y w3 ⟨rfl,F3,he,hb,ha⟩
 have K3:=Kept.mk (num_step he H3.out (by simp[be_len]) hb ha)
 clear K2 he hb ha
 go_wp2_with fail
 refine K3.out.mono ?_
 rintro y w4 ⟨rfl,F4,he,hb,ha⟩
 have B4:=Kept.mk hb;have A4:=Kept.mk ha
 have R4:=Kept.mk (RD.out.below hb)
 have K4:=Kept.mk (vputb_any (c:=c) he R4.out (rd_off RD.out A4.out) (by simp only[List.length_append,be_len];omega))
 clear K3 he hb ha
 go_wp2_with fail
 refine K4.out.mono ?_
 rintro y w5 ⟨rfl,F5,he,fp⟩
 have B5:=Kept.mk (B4.out.trans (fp.below A4.out B4.out.size))
 have e:be p 1++be seq.toNat 4++be at_.toNat 8++b=recV p seq at_ b:=by simp only[recV,List.append_assoc]
 rw[e] at he
 have KD:=Kept.mk (done_any w5 F5 E (0,recV p seq at_ b) he HRB.out (by rw[HRL.out,HLB.out];omega))
 clear K4 he fp e B4 A4 R4
 go_wp2_with fail
 refine KD.out.mono ?_
 rintro y w6 ⟨v6,rfl,own,b6⟩
 obtain⟨A6,c6,rfl,h1,h2,r6⟩:=own_rd own HRB.out
 have R6:=Kept.mk r6
 have NW:Kept (∀ b o,A6=some ⟨b,o,none⟩→w.heap.size≤b):=⟨fun b o hh=>by subst hh;have h1:=B5.out.size;have h3:=(own.lt b rfl).1;omega⟩
 have B6:=Kept.mk (B5.out.trans (b6.mono B5.out.size))
 clear KD own b6 r6
 go_wp2
 go_ret2
 exact⟨A6,c6,rfl,h1,h2,R6.out,fun b o hh=>⟨NW.out b o hh,by simp⟩,B6.out⟩
end
section
variable {w : World}
theorem num_fp {w w1:World}{F F1:List Nat}{E:Nat}{l l':List Int}{z s:Int}(he:En 233 w1 F1 E (0,l)) (hs:encNum (0,l) z s=(0,l')) (hl:l.length≤2000000000) (fp:Fp F F1 w w1) :
  Calls Tryz.prog 83 #[.pointer (some ⟨E,0,none⟩),.int .i64 z,.int .i64 s] w1 fun y w2=>y=.returned (.tuple #[])∧∃ F2,En 233 w2 F2 E (0,l')∧Fp F F2 w w2∧Fp F1 F2 w1 w2:=by
 have K:=num_any w1 F1 E z s (0,l) he (by show l.length≤_;omega)
 rw[hs] at K
 refine K.mono ?_
 rintro y w2 ⟨rfl,F2,h2,fp2⟩
 exact⟨rfl,F2,h2,fp.trans fp2,fp2⟩
def PutLPost (w:World) (F:List Nat) (e:Nat) (l:List Int) (y:Ending) (w':World):Prop:=y=.returned (.tuple #[])∧∃ F',En 233 w' F' e (0,l)∧Fp F F' w w'
theorem rc_off_step {α:Type}{C:α→List Value}{z n:Nat}{w w':World}{A:Option Addr}{l:List α}{F F':List Nat}(h:Rc C z w A n l) (hC:∀ x,C x≠[]) (o:Off A n F) (fp:Fp F F' w w'):Off A n F':=by
 rcases o with h0|⟨g,go,e,hg⟩
 ·exact .inl h0
 ·by_cases h0:n=0
  ·exact .inl h0
  ·obtain⟨b,o',x,hA,-,hc⟩:=h.at_ (k:=0) (by omega)
   refine .inr ⟨g,go,e,fun hm=>?_⟩
   rw[e] at hA
   injection hA with hA;injection hA with e1 e2
   subst e1
   rcases fp.2 g hm with q|q
   ·exact hg q
   ·cases hcx:C x with
    | nil=>exact hC x hcx
    | cons v r =>
     have:=World.block_lt_of_cell? _ _ (hc 0 v (by rw[hcx];rfl))
     simp at *
     omega
theorem pvC_ne (x:PV):pvC x≠[]:=by simp[pvC]
set_option maxRecDepth 100000 in
set_option maxHeartbeats 2000000 in
theorem vputl_any {L:Ledger.LS}{F:List Nat}{e:Nat}{l:List Int}{x:TV}{q:LM}(W:Ledger.WL L) (hw:WT L x) (h:En 233 w F e (0,l)) (rp:Rp w q.A q.n x.a.p) (o:Off q.A q.n F) (hl:l.length≤1000000) :
  Calls Tryz.prog 203 #[.pointer (some ⟨e,0,none⟩),.agg #[.int .i64 x.seq,.int .i64 x.seen,.int .i64 x.a.clock,.int .i64 x.a.seen,.slice q.A q.n q.c,.slice q.D q.m q.d]] w (PutLPost w F e (l++putT x)):=by
 obtain⟨A,n,c,D,m,d⟩:=q
 have HTZ:=hw.zero
 have HA:I16 x.a.seen:=by have:=hw.told;have:=W.len;unfold I16;omega
 have HCK:=hw.clock.1.amt
 have HSN:=hw.seen
 have HSQ:=hw.seq
 have HPM:=hw.p
 obtain⟨seq,seen,clock,aseen,p,v⟩:=x
 dsimp only at rp o HTZ HA HCK HSN HSQ HPM ⊢
 have HN64:n≤64:=by have:=HPM.1;have:=rp.1;omega
 have HLP:=Kept.mk rp.1
 have HM:=Kept.mk HPM.2
 have H1:=Kept.mk (enc4 l HSQ)
 have H2:=Kept.mk (Ledger.enc8 (l++be seq.toNat 4) HCK)
 have H3:=Kept.mk (Ledger.enc2 (l++be seq.toNat 4++be clock.toNat 8) HA)
 have H4:=Kept.mk (Ledger.enc2 (l++be seq.toNat 4++be clock.toNat 8++be aseen.toNat 2) HSN)
 have H5:=Kept.mk (Ledger.enc1 (l++be seq.toNat 4++be clock.toNat 8++be aseen.toNat 2++be seen.toNat 2) (z:=(n:Int)) (by unfold B8;omega))
 have HT0:Kept (seq=0→l++putT ⟨seq,seen,clock,aseen,p,v⟩=l++be seq.toNat 4):=⟨fun h0=>by
  unfold putT;rw[if_pos h0,List.append_nil]⟩
 have HT1:Kept (seq≠0→l++putT ⟨seq,seen,clock,aseen,p,v⟩=(l++be seq.toNat 4++be clock.toNat 8++be aseen.toNat 2++be seen.toNat 2++be ((n:Int)).toNat 1)++p.flatMap putP):=⟨fun h0=>by
  unfold putT;rw[if_neg h0,← rp.1];simp only[List.append_assoc,Int.toNat_natCast]⟩
 have HLL:Kept ((l++be seq.toNat 4++be clock.toNat 8++be aseen.toNat 2++be seen.toNat 2++be ((n:Int)).toNat 1).length≤1000017):=⟨by simp only[List.length_append,be_len];omega⟩
 obtain⟨r,hr⟩:∃ r,l++putT ⟨seq,seen,clock,aseen,p,v⟩=r:=⟨_,rfl⟩
 rw[hr] at HT0 HT1 ⊢
 obtain⟨N,hN⟩:∃ N,w.heap.size=N:=⟨_,rfl⟩
 have b0:Below w.heap.size w (w.alloc (.cells #[.int .i64 seq,.int .i64 seen,.int .i64 clock,.int .i64 aseen,.slice A n c,.slice D m d] 141)):=(Below.refl _ _).alloc (Nat.le_refl _) _
 have X:Kept (Blk (w.alloc (.cells #[.int .i64 seq,.int .i64 seen,.int .i64 clock,.int .i64 aseen,.slice A n c,.slice D m d] 141)) N 141 #[.int .i64 seq,.int .i64 seen,.int .i64 clock,.int .i64 aseen,.slice A n c,.slice D m d]):=⟨Blk.new_at w _ _ N hN.symm⟩
 have NF:Kept (N∉F):=⟨fun hm=>by have:=h.lt N hm;omega⟩
 have L:=Kept.mk (h.below b0)
 have FP:Kept (Fp F F w (w.alloc (.cells #[.int .i64 seq,.int .i64 seen,.int .i64 clock,.int .i64 aseen,.slice A n c,.slice D m d] 141))):=⟨barOf b0 _,fun _ hk=>.inl hk⟩
 have RP:=Kept.mk (rp.below b0)
 have OF:=Kept.mk o
 clear h rp o HTZ HA HCK HSN HSQ HPM hr b0 W hw
 unfold PutLPost
 go_enter Tryz.func203,Tryz.ntmps203
 go_upto_region 1 with(fail)
 generalize (w.alloc (.cells #[.int .i64 seq,.int .i64 seen,.int .i64 clock,.int .i64 aseen,.slice A n c,.slice D m d] 141))=w1 at *
 have y0:=X.out.cell 0
 have K1:=Kept.mk (num_fp L.out H1.out (by omega) FP.out)
 go_wp2_with fail
 refine K1.out.mono ?_
 rintro y w2 ⟨rfl,F2,he,fp,fp2⟩
 have X2:=Kept.mk (X.out.bar fp2.1 NF.out)
 have NF2:=Kept.mk (Ledger.off_step NF.out X.out.lt fp2)
 have RP2:=Kept.mk (rc_far3 RP.out OF.out fp2.1)
 have OF2:=Kept.mk (rc_off_step RP.out pvC_ne OF.out fp2)
 have FP2:=Kept.mk fp;have L2:=Kept.mk he
 clear K1 he fp fp2 X NF RP OF FP L y0
 have y0:=X2.out.cell 0
 by_cases h0:seq=0
 ·have HR:=HT0.out h0
  subst h0
  go_wp2
  first|go_end0|(simp only[Exit.inBlock,Exit.then];refine bodyPost_ret (results_none rfl _ _ _) rfl ?_)|refine bodyPost_ret (results_none rfl _ _ _) rfl ?_
  exact⟨rfl,F2,by rw[HR];exact L2.out,FP2.out⟩
 ·have HR:=Kept.mk (HT1.out h0)
  have y2:=X2.out.cell 2
  have K1:=Kept.mk (num_fp L2.out H2.out (by simp only[List.length_append,be_len];omega) FP2.out)
  clear HT0 HT1 H1
  go_wp2_with fail
  refine K1.out.mono ?_
  rintro y w3 ⟨rfl,F3,he,fp,fp2⟩
  have X3:=Kept.mk (X2.out.bar fp2.1 NF2.out)
  have NF3:=Kept.mk (Ledger.off_step NF2.out X2.out.lt fp2)
  have RP3:=Kept.mk (rc_far3 RP2.out OF2.out fp2.1)
  have OF3:=Kept.mk (rc_off_step RP2.out pvC_ne OF2.out fp2)
  have FP3:=Kept.mk fp;have L3:=Kept.mk he
  clear K1 he fp fp2 X2 NF2 RP2 OF2 FP2 L2 y0 y2 H2
  have y3:=X3.out.cell 3
  have K1:=Kept.mk (num_fp L3.out H3.out (by simp only[List.length_append,be_len];omega) FP3.out)
  go_wp2_with fail
  refine K1.out.mono ?_
  rintro y w4 ⟨rfl,F4,he,fp,fp2⟩
  have X4:=Kept.mk (X3.out.bar fp2.1 NF3.out)
  have NF4:=Kept.mk (Ledger.off_step NF3.out X3.out.lt fp2)
  have RP4:=Kept.mk (rc_far3 RP3.out OF3.out fp2.1)
  have OF4:=Kept.mk (rc_off_step RP3.out pvC_ne OF3.out fp2)
  have FP4:=Kept.mk fp;have L4:=Kept.mk he
  clear K1 he fp fp2 X3 NF3 RP3 OF3 FP3 L3 y3 H3
  have y1:=X4.out.cell 1
  have K1:=Kept.mk (num_fp L4.out H4.out (by simp only[List.length_append,be_len];omega) FP4.out)
  go_wp2_with fail
  refine K1.out.mono ?_
  rintro y w5 ⟨rfl,F5,he,fp,fp2⟩
  have X5:=Kept.mk (X4.out.bar fp2.1 NF4.out)
  have NF5:=Kept.mk (Ledger.off_step NF4.out X4.out.lt fp2)
  have RP5:=Kept.mk (rc_far3 RP4.out OF4.out fp2.1)
  have OF5:=Kept.mk (rc_off_step RP4.out pvC_ne OF4.out fp2)
  have FP5:=Kept.mk fp;have L5:=Kept.mk he
  clear K1 he fp fp2 X4 NF4 RP4 OF4 FP4 L4 y1 H4
  have y4:=X5.out.cell 4
  have K1:=Kept.mk (num_fp L5.out H5.out (by simp only[List.length_append,be_len];omega) FP5.out)
  go_wp2_with fail
  refine K1.out.mono ?_
  rintro y w6 ⟨rfl,F6,he,fp,fp2⟩
  have X6:=Kept.mk (X5.out.bar fp2.1 NF5.out)
  have RP6:=Kept.mk (rc_far3 RP5.out OF5.out fp2.1)
  have OF6:=Kept.mk (rc_off_step RP5.out pvC_ne OF5.out fp2)
  have FP6:=Kept.mk fp
  obtain⟨hd,hhd⟩:∃ hd,l++be seq.toNat 4++be clock.toNat 8++be aseen.toNat 2++be seen.toNat 2++be ((n:Int)).toNat 1=hd:=⟨_,rfl⟩
  rw[hhd] at he HR HLL
  have L6:Kept (En 233 w6 F6 e (0,hd++(p.take 0).flatMap putP)):=⟨by rw[List.take_zero,List.flatMap_nil,List.append_nil];exact he⟩
  clear K1 he fp fp2 X5 NF5 RP5 OF5 FP5 L5 y4 H5 hhd hN
  have y4:=X6.out.cell 4
  go_wp2
  clear X6 y4
  go_loopw [37] (fun i wr=>∃ (k:Nat) (F2:List Nat),k≤n∧i=.int .i64 k∧Kept (En 233 wr F2 e (0,hd++(p.take k).flatMap putP))∧Kept (Fp F F2 w wr)∧Kept (Rp wr A n p)∧Kept (Off A n F2)) (fun i _=>n - (Go.RowKit.intOf i).toNat)
  case atStart=>exact⟨0,F6,by omega,rfl,L6,FP6,RP6,OF6⟩
  case round =>
   clear L6 FP6 RP6 OF6
   obtain⟨k,F2,hk,rfl,L,FP,RP,OF⟩:=hrel
   by_cases hkn:k < n
   ·have hkn':(k:Int) < n:=by omega
    obtain⟨g,go,y,hA,hy,hyc⟩:=RP.out.at_ hkn
    subst hA
    have HT:=Kept.mk (Ledger.ctake_next hy)
    have hmay:=HM.out y (List.mem_of_getElem? hy)
    obtain⟨code,id⟩:=y
    have y0:wr.cell? ⟨g,go+k * 2,none⟩=some (.int .i64 code):=hyc 0 _ rfl
    have y1:wr.cell? ⟨g,go+k * 2+1,none⟩=some (.int .i64 id):=hyc 1 _ rfl
    have b1:Below wr.heap.size wr (wr.alloc (.cells #[.int .i64 code,.int .i64 id] 167)):=(Below.refl _ _).alloc (Nat.le_refl _) _
    obtain⟨M,hM⟩:∃ M,wr.heap.size=M:=⟨_,rfl⟩
    have X:Kept (Blk (wr.alloc (.cells #[.int .i64 code,.int .i64 id] 167)) M 167 #[.int .i64 code,.int .i64 id]):=⟨Blk.new_at wr _ _ M hM.symm⟩
    have MF:Kept (M∉F2):=⟨fun hm=>by have:=L.out.lt M hm;omega⟩
    obtain⟨Z,hZ⟩:∃ Z,hd++(p.take k).flatMap putP=Z:=⟨_,rfl⟩
    have HZL:Kept (Z.length≤1000500):=⟨by
     have h2:=flat_len (f:=putP) (m:=3) (l:=p.take k) (fun r _=>Nat.le_of_eq (putP_len r))
     have h3:(p.take k).length≤64:=by rw[List.length_take];omega
     have:=HLL.out
     rw[← hZ,List.length_append];omega⟩
    have HZ:Kept (hd++(p.take (k+1)).flatMap putP=Z++be code.toNat 1++be id.toNat 2):=⟨by
     rw[HT.out,List.flatMap_append,List.flatMap_singleton,← List.append_assoc,hZ,List.append_assoc];rfl⟩
    rw[hZ] at L
    have E1:=Kept.mk (Ledger.enc1 Z hmay.1)
    have E2:=Kept.mk (Ledger.enc2 (Z++be code.toNat 1) hmay.2)
    clear hyc hy hZ HT hmay
    go_upto_region 10 with(fail)
    replace L:=Kept.mk (L.out.below b1)
    replace RP:=Kept.mk (RP.out.below b1)
    replace FP:=Kept.mk (FP.out.trans (⟨barOf b1 _,fun _ hk=>.inl hk⟩:Fp F2 F2 _ _))
    clear y0 y1 b1
    generalize wr.alloc (.cells #[.int .i64 code,.int .i64 id] 167)=w7 at *
    have y0:=X.out.cell 0
    have K1:=Kept.mk (num_fp L.out E1.out (Nat.le_trans HZL.out (by omega)) FP.out)
    go_wp2_with fail
    refine K1.out.mono ?_
    rintro y w8 ⟨rfl,F8,he,fp,fp2⟩
    have X8:=Kept.mk (X.out.bar fp2.1 MF.out)
    have RP8:=Kept.mk (rc_far3 RP.out OF.out fp2.1)
    have OF8:=Kept.mk (rc_off_step RP.out pvC_ne OF.out fp2)
    have FP8:=Kept.mk fp;have L8:=Kept.mk he
    clear K1 he fp fp2 X MF RP OF FP L y0 E1
    have y1:=X8.out.cell 1
    have K1:=Kept.mk (num_fp L8.out E2.out (by have:=HZL.out;simp only[List.length_append,be_len];omega) FP8.out)
    go_wp2_with fail
    refine K1.out.mono ?_
    rintro y w9 ⟨rfl,F9,he,fp,fp2⟩
    have RP9:=Kept.mk (rc_far3 RP8.out OF8.out fp2.1)
    have OF9:=Kept.mk (rc_off_step RP8.out pvC_ne OF8.out fp2)
    have FP9:=Kept.mk fp
    rw[← HZ.out] at he
    have L9:=Kept.mk he
    clear K1 he fp fp2 X8 RP8 OF8 FP8 L8 y1 E2 HZ hM
    go_wp2
    go_roundw
    case rel=>exact⟨k+1,F9,by omega,by go_num,L9,FP9,RP9,OF9⟩
    case measure=>simp[Go.RowKit.intOf];omega
   ·have hkn':¬ (k:Int) < n:=by omega
    obtain rfl:k=n:=by omega
    go_wp2
    first|go_end0|(simp only[Exit.inBlock,Exit.then];refine bodyPost_ret (results_none rfl _ _ _) rfl ?_)|refine bodyPost_ret (results_none rfl _ _ _) rfl ?_
    refine⟨rfl,F2,?_,FP.out⟩
    have:=L.out
    rw[List.take_of_length_le (by rw[HLP.out];exact Nat.le_refl _)] at this
    rw[HR.out];exact this
end
section
variable {w : World} {HJ FL I : List Nat} {x t d j y n : Nat} {lv : Value} {l : List (TV × LM)} {m : MV} {s0 : Ledger.LS}
theorem tAt_at {v:VS}{k:Nat}(hk:k < v.t.length):v.t[k]?=some (tAt v k):=by
 unfold tAt
 rw[List.getD_eq_getElem?_getD,List.getElem?_eq_getElem hk];rfl
theorem Vp.below {w':World}(h:Vp w x t d j y n HJ FL I lv l m) (b:Below w.heap.size w w'):Vp w' x t d j y n HJ FL I lv l m:=h.keep (barOf b []) (fun _ _=>by simp)
theorem Vp.cells {w':World}(h:Vp w x t d j y n HJ FL I lv l m) (b:Below w.heap.size w w') {k:Nat}(hk:k < m.v.t.length) {A:Option Addr}{c:Nat}(hlv:lv=.slice A m.v.t.length c):∃ g go q,A=some ⟨g,go,none⟩∧El w I (tAt m.v k,q)∧El w' I (tAt m.v k,q) ∧
  ∀ i u,(lastC (tAt m.v k,q))[i]?=some u→w'.cell? ⟨g,go+k * 6+i,none⟩=some u:=by
 obtain⟨q,hq,el⟩:=h.at_ hk
 have h':=h.below b
 obtain⟨A2,c2,e2,-,-,-,hrc⟩:=h'.list
 rw[hlv] at e2
 injection e2 with e2 _ _
 subst e2
 obtain⟨g,go,z,hA,hz,hzc⟩:=hrc.at_ hk
 rw[hq] at hz
 injection hz with hz
 subst hz
 exact⟨g,go,q,hA,el,el.keep (barOf b []) (fun _ _=>by simp),hzc⟩
set_option maxRecDepth 100000 in
set_option maxHeartbeats 2000000 in
theorem vpict_any (W:WV s0 m.v) (h:Vp w x t d j y n HJ FL I lv l m):Calls Tryz.prog 165 #[.pointer (some ⟨x,0,none⟩)] w (NewBytes (pictV m.v) w):=by
 obtain⟨A,c,hlv,x2,hc,hcm,-⟩:=h.list
 have x1:=h.c1
 obtain⟨b,q,G,bv,dv,hp,-⟩:=h.lk
 have KS:=Kept.mk (Ledger.lsave_any W.wl hp)
 have H:=Kept.mk h
 have HPB:=Kept.mk (pictV_bytes W);have HPL:=Kept.mk (pictV_le W).2
 have HW:=Kept.mk W
 have HLV:=Kept.mk hlv
 have H4:Kept ((Ledger.saveL m.v.l).length≤60000):=⟨by
  have:=HPL.out
  simp only[pictV,List.length_append,be_len] at this;omega⟩
 have KN:=Kept.mk (fun w1:World=>newenc_any w1)
 unfold Ledger.SavePost at KS
 unfold NewBytes
 clear h hlv hp W x2
 go_enter Tryz.func165,Tryz.ntmps165
 go_wp2_with fail
 refine KS.out.mono ?_
 rintro e w1 ⟨SA,sn,sc,rfl,h1,h2,h3,h4,bb⟩
 have SR:=Kept.mk h3
 have B1:=Kept.mk bb
 have HSN:=Kept.mk h3.1
 have H1:=Kept.mk (H.out.below bb)
 clear KS x1 h3 h4 bb H h1 h2
 go_wp2_with fail
 refine(KN.out w1).mono ?_
 rintro e w2 ⟨rfl,he,fp⟩
 obtain⟨E,hE⟩:∃ E,w1.heap.size=E:=⟨_,rfl⟩
 have BW:=fp.below (B:=w1.heap.size) (by simp) (Nat.le_refl _)
 have AF:=fp.least (B:=w1.heap.size) (by simp) (Nat.le_refl _)
 rw[hE] at he AF
 have HE:=Kept.mk hE
 have EN1:=enc4 [] (z:=(sn:Int)) (by have:=H4.out;have:=HSN.out;omega)
 rw[List.nil_append] at EN1
 have K1:=Kept.mk (num_step he EN1 (by simp) BW (by rw[hE];exact AF))
 rw[hE]
 clear KN he EN1 AF BW fp hE
 go_wp2_with fail
 refine K1.out.mono ?_
 rintro e w3 ⟨rfl,F3,he,hb,ha⟩
 have B3:=Kept.mk hb;have A3:=Kept.mk ha
 have K2:=Kept.mk (vputb_any (c:=sc) he (SR.out.below hb) (rd_off SR.out ha) (by have:=H4.out;have:=HSN.out;rw[be_len];omega))
 clear K1 he hb ha
 go_wp2_with fail
 refine K2.out.mono ?_
 rintro e w4 ⟨rfl,F4,he,fp⟩
 have BW:=Kept.mk (B3.out.trans (fp.below A3.out B3.out.size))
 have AF:=Kept.mk (fp.least A3.out B3.out.size)
 obtain⟨hd,hhd⟩:∃ hd,be ((sn:Int)).toNat 4++Ledger.saveL m.v.l=hd:=⟨_,rfl⟩
 have HP:Kept (pictV m.v=hd++m.v.t.flatMap putT):=⟨by rw[← hhd,pictV,← HSN.out,Int.toNat_natCast,List.append_assoc]⟩
 rw[hhd] at he
 have L:Kept (En 233 w4 F4 E (0,hd++(m.v.t.take 0).flatMap putT)):=⟨by rw[List.take_zero,List.flatMap_nil,List.append_nil];exact he⟩
 clear K2 he fp hhd B3 A3 SR HSN H4
 have HDL:Kept (∀ k,(hd++(m.v.t.take k).flatMap putT).length≤100000):=⟨fun k=>by
  have h2:=flat_len (f:=putT) (m:=209) (l:=m.v.t.take k) (fun y hy=>putT_len m.v.l (HW.out.each y (List.mem_of_mem_take hy)))
  have h3:(m.v.t.take k).length≤16:=by rw[List.length_take];have:=HW.out.np16;omega
  have h4:=HPL.out
  rw[HP.out,List.length_append] at h4
  rw[List.length_append];omega⟩
 have x2:w4.cell? ⟨x,2,none⟩=some (.slice A m.v.t.length c):=by
  have:=(H1.out.below BW.out).blk.cell 2
  rw[HLV.out] at this
  exact this
 obtain⟨n',hn⟩:∃ n',m.v.t.length=n':=⟨_,rfl⟩
 rw[hn] at x2 hc
 have HN:=Kept.mk hn
 clear hn
 go_wp2
 clear x2
 go_loopw [33] (fun i wr=>∃ (k:Nat) (F4:List Nat),k≤n'∧i=.int .i64 k∧Kept (En 233 wr F4 E (0,hd++(m.v.t.take k).flatMap putT))∧Kept (Below w1.heap.size w1 wr)∧Kept (∀ z∈F4,w1.heap.size≤z)) (fun i _=>n' - (Go.RowKit.intOf i).toNat)
 case atStart=>exact⟨0,F4,by omega,rfl,L,BW,AF⟩
 case round =>
  clear L BW AF
  obtain⟨k,F5,hk,rfl,L,BW,AF⟩:=hrel
  by_cases hkn:k < n'
  ·have hkn':(k:Int) < n':=by omega
   have hkv:k < m.v.t.length:=by rw[HN.out];exact hkn
   obtain⟨g,go,⟨RA,rn,rc,D,dm,dd⟩,hA,el1,el,hcell⟩:=H1.out.cells BW.out hkv HLV.out
   subst hA
   have HT:=Kept.mk (Ledger.ctake_next (tAt_at hkv))
   have HWT:=Kept.mk (HW.out.each _ (tAt_mem hkv))
   have EL:=Kept.mk el
   have OFF:=Kept.mk (Ledger.rc_off el1.rp pvC_ne AF.out)
   clear el1 el hkv
   obtain⟨X,hX⟩:∃ X,tAt m.v k=X:=⟨_,rfl⟩
   rw[hX] at HT HWT EL hcell OFF
   have HZ:Kept (hd++(m.v.t.take (k+1)).flatMap putT=hd++(m.v.t.take k).flatMap putT++putT X):=⟨by
    rw[HT.out,List.flatMap_append,List.flatMap_singleton,List.append_assoc]⟩
   obtain⟨Z,hZ⟩:∃ Z,hd++(m.v.t.take k).flatMap putT=Z:=⟨_,rfl⟩
   have HZL:Kept (Z.length≤1000000):=⟨by rw[← hZ];exact Nat.le_trans (HDL.out k) (by omega)⟩
   rw[hZ] at L HZ
   have y0:wr.cell? ⟨g,go+k * 6,none⟩=some (.int .i64 X.seq):=hcell 0 _ rfl;have y1:wr.cell? ⟨g,go+k * 6+1,none⟩=some (.int .i64 X.seen):=hcell 1 _ rfl;have y2:wr.cell? ⟨g,go+k * 6+2,none⟩=some (.int .i64 X.a.clock):=hcell 2 _ rfl;have y3:wr.cell? ⟨g,go+k * 6+3,none⟩=some (.int .i64 X.a.seen):=hcell 3 _ rfl;have y4:wr.cell? ⟨g,go+k * 6+4,none⟩=some (.slice RA rn rc):=hcell 4 _ rfl;have y5:wr.cell? ⟨g,go+k * 6+5,none⟩=some (.slice D dm dd):=hcell 5 _ rfl
   have b1:Below wr.heap.size wr (wr.alloc (.cells #[.int .i64 X.seq,.int .i64 X.seen,.int .i64 X.a.clock,.int .i64 X.a.seen,.slice RA rn rc,.slice D dm dd] 141)):=(Below.refl _ _).alloc (Nat.le_refl _) _
   obtain⟨M,hM⟩:∃ M,wr.heap.size=M:=⟨_,rfl⟩
   have XB:Kept (Blk (wr.alloc (.cells #[.int .i64 X.seq,.int .i64 X.seen,.int .i64 X.a.clock,.int .i64 X.a.seen,.slice RA rn rc,.slice D dm dd] 141)) M 141 #[.int .i64 X.seq,.int .i64 X.seen,.int .i64 X.a.clock,.int .i64 X.a.seen,.slice RA rn rc,.slice D dm dd]):=⟨Blk.new_at wr _ _ M hM.symm⟩
   clear hcell hX hZ HT
   go_upto_region 10 with(fail)
   replace L:=Kept.mk (L.out.below b1)
   replace BW:=Kept.mk (BW.out.trans (b1.mono BW.out.size))
   replace EL:=Kept.mk (EL.out.rp.below b1)
   clear y0 y1 y2 y3 y4 y5 b1
   generalize wr.alloc (.cells #[.int .i64 X.seq,.int .i64 X.seen,.int .i64 X.a.clock,.int .i64 X.a.seen,.slice RA rn rc,.slice D dm dd] 141)=w5 at *
   have y0:=XB.out.cell 0;have y1:=XB.out.cell 1;have y2:=XB.out.cell 2;have y3:=XB.out.cell 3;have y4:=XB.out.cell 4;have y5:=XB.out.cell 5
   have K1:=Kept.mk (vputl_any (q:=⟨RA,rn,rc,D,dm,dd⟩) HW.out.wl HWT.out L.out EL.out OFF.out HZL.out)
   go_wp2_with fail
   refine K1.out.mono ?_
   rintro e w6 ⟨rfl,F6,he,fp⟩
   rw[← HZ.out] at he
   have L6:=Kept.mk he
   have B6:=Kept.mk (BW.out.trans (fp.below AF.out BW.out.size))
   have A6:=Kept.mk (fp.least AF.out BW.out.size)
   clear K1 he fp XB y0 y1 y2 y3 y4 y5 L BW AF EL OFF HZ HZL HWT hM
   go_wp2
   go_roundw
   case rel=>exact⟨k+1,F6,by omega,by go_num,L6,B6,A6⟩
   case measure=>simp[Go.RowKit.intOf];omega
  ·have hkn':¬ (k:Int) < n':=by omega
   obtain rfl:k=n':=by omega
   have hL:=L.out
   rw[← HN.out,List.take_length,← HP.out] at hL
   have KD:=Kept.mk (done_any wr F5 E (0,pictV m.v) hL HPB.out (by have:=HPL.out;show (pictV m.v).length < _;omega))
   clear hL
   go_wp2_with fail
   refine KD.out.mono ?_
   rintro e w5 ⟨v5,rfl,own,b5⟩
   obtain⟨A5,c5,rfl,h1,h2,r5⟩:=own_rd own HPB.out
   have R5:=Kept.mk r5
   have NW5:Kept (∀ b o,A5=some ⟨b,o,none⟩→w.heap.size≤b):=⟨fun b o hh=>by subst hh;have h1:=BW.out.size;have h2:=B1.out.size;have h3:=(own.lt b rfl).1;omega⟩
   replace BW:=Kept.mk (B1.out.trans ((BW.out.trans (b5.mono BW.out.size)).mono B1.out.size))
   clear KD own b5 r5
   go_wp2
   go_ret2
   exact⟨A5,c5,rfl,h1,h2,R5.out,fun b o hh=>⟨NW5.out b o hh,by simp⟩,BW.out⟩
end
end Go.Proofs.YtidjkhpekhpffaaGreat.Vault
