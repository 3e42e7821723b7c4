/-
  Parts laid together: FrameOkSpec JText VaultAt VaultOk.
-/
import Derived.Test.YtidjkhpekhpffaaGreatPart5
namespace Go.Proofs.YtidjkhpekhpffaaGreat.Frame
open Go.Proofs.YtidjkhpekhpffaaGreat.Sha Go.Proofs.YtidjkhpekhpffaaGreat.Wire
def head0 (b:List Int):List Int:=(allF b 1).take 16
theorem head0_is (b:List Int):head0 b=(b.drop 1).take 16:=by
 unfold head0 allF
 simp only[cat,Nat.mul_zero,Nat.zero_add,List.nil_append]
 rw[List.take_take];rfl
theorem head0_drop (b:List Int):(head0 b).drop 2=h14 b:=by
 rw[head0_is,List.take_drop]
 unfold h14
 rw[List.drop_drop]
theorem head0_len {b:List Int}(h:64≤b.length):(head0 b).length=16:=by rw[head0_is,List.length_take,List.length_drop];omega
theorem head0_bytes {b:List Int}(hb:Bytes b):Bytes (head0 b):=by rw[head0_is];exact(hb.drop _).take _
def hK (H:List Int):Nat:=val ((H.drop 2).take 1)
def hZ (H:List Int):Nat:=val ((H.drop 3).take 1)
def hG (H:List Int):Nat:=val ((H.drop 4).take 4)
def hS (H:List Int):Nat:=val ((H.drop 8).take 4)
def hN (H:List Int):Nat:=val ((H.drop 12).take 4)
def headOk (H:List Int):Prop:=val (H.take 2)=25446∧hZ H=0∧hN H≤60000
theorem fK_head (b:List Int):fK b=hK (head0 b):=by unfold fK hK;rw[head0_drop]
theorem fG_head (b:List Int):fG b=hG (head0 b):=by unfold fG hG;rw[← head0_drop,List.drop_drop]
theorem fS_head (b:List Int):fS b=hS (head0 b):=by unfold fS hS;rw[← head0_drop,List.drop_drop]
theorem fN_head (b:List Int):fN b=hN (head0 b):=by unfold fN hN;rw[← head0_drop,List.drop_drop]
theorem head_is {H:List Int}(hl:H.length=16) (hb:Bytes H) (h2:val (H.take 2)=25446) (h0:hZ H=0) :
  H=[99,102]++be (hK H) 1++be 0 1++be (hG H) 4++be (hS H) 4++be (hN H) 4:=by
 have e2:be (val (H.take 2)) (H.take 2).length=H.take 2:=be_val _ (hb.take _)
 have e3:be (hK H) ((H.drop 2).take 1).length=(H.drop 2).take 1:=be_val _ ((hb.drop _).take _)
 have e4:be (hZ H) ((H.drop 3).take 1).length=(H.drop 3).take 1:=be_val _ ((hb.drop _).take _)
 have e5:be (hG H) ((H.drop 4).take 4).length=(H.drop 4).take 4:=be_val _ ((hb.drop _).take _)
 have e6:be (hS H) ((H.drop 8).take 4).length=(H.drop 8).take 4:=be_val _ ((hb.drop _).take _)
 have e7:be (hN H) ((H.drop 12).take 4).length=(H.drop 12).take 4:=be_val _ ((hb.drop _).take _)
 simp only[List.length_take,List.length_drop,hl] at e2 e3 e4 e5 e6 e7
 rw[h2] at e2
 rw[h0] at e4
 have d2:be 25446 2=[99,102]:=by decide +kernel
 rw[show min 2 16=2 from rfl,d2] at e2
 rw[show min 1 (16 - 2)=1 from rfl] at e3
 rw[show min 1 (16 - 3)=1 from rfl] at e4
 rw[show min 4 (16 - 4)=4 from rfl] at e5
 rw[show min 4 (16 - 8)=4 from rfl] at e6
 rw[show min 4 (16 - 12)=4 from rfl] at e7
 rw[e2,e3,e4,e5,e6,e7]
 match H,hl with
 | [a0,a1,a2,a3,a4,a5,a6,a7,a8,a9,b0,b1,b2,b3,b4,b5],_=>rfl
def sOf (b:List Int):Nat:=(sectorsF (fN b)).toNat
def codeOk (b:List Int):Prop :=
 64≤b.length∧at_ b 0=1∧headOk (head0 b)∧64 * sOf b≤b.length∧(∀ i,i < sOf b→at_ b (64 * i)=mk i) ∧
 ((allF b (sOf b)).take 24).drop 16=(sha ((allF b (sOf b)).take 16++fB b)).take 8∧∀ x∈(allF b (sOf b)).drop (24+fN b),x=0
theorem sOf_is {b:List Int}(h:fN b≤60000):sOf b=(24+fN b+62) / 63:=by unfold sOf sectorsF;rw[if_neg (by omega)];omega
theorem fB_len {b:List Int}(h:fN b≤60000) (hs:64 * sOf b≤b.length):(fB b).length=fN b:=by
 have e:=sOf_is h
 have l:=allF_len (sOf b) hs
 unfold fB
 rw[List.length_drop,List.length_take]
 change min (24+fN b) (allF b (sOf b)).length - 24=fN b
 rw[l];omega
theorem fits_four {n:Nat}(h:n < 4294967296):fits (n:Int) 4=true:=by unfold fits;simp;omega
theorem fits_one {n:Nat}(h:n < 256):fits (n:Int) 1=true:=by unfold fits;simp;omega
theorem errF_of {b:List Int}(hb:Bytes b) (h:fN b≤60000) (hs:64 * sOf b≤b.length):errF (frameOf b)=0:=by
 have h1:fK b < 256:=by
  have:=val_lt ((h14 b).take 1) (((hb.take _).drop _).take _)
  have h2:256 ^ ((h14 b).take 1).length≤256 ^ 1:=Nat.pow_le_pow_right (by omega) (by simp;omega)
  unfold fK;omega
 have h2:fG b < 4294967296:=val4 _ ((((hb.take _).drop _).drop _).take _) (by simp;omega)
 have h3:fS b < 4294967296:=val4 _ ((((hb.take _).drop _).drop _).take _) (by simp;omega)
 unfold errF
 have hl:(frameOf b).body.length=fN b:=fB_len h hs
 rw[hl,if_neg (by omega),if_pos ⟨fits_one h1,fits_four h2,fits_four h3⟩]
theorem ok_code {b:List Int}(hb:Bytes b):getOk b ↔ codeOk b:=by
  constructor
  · rintro ⟨h1,h2,h3,h4,h5,h6⟩
    have hn:fN b≤60000:=by
      rcases Nat.lt_or_ge 60000 (fN b) with h|h
      · exact absurd (by unfold sectorsF;rw[if_pos (.inr (by omega))]) h3
      · exact h
    have hS:=sOf_is hn
    have hSi : sectorsF (fN b) = (sOf b : Int) := by unfold sOf;have:0≤sectorsF (fN b):=by unfold sectorsF;split<;>omega
                                                     omega
    rw[hSi] at h4 h6
    have h4':64 * sOf b≤b.length:=by omega
    rw[show (64 * (sOf b:Int)).toNat=64 * sOf b by omega] at h6
    have he:errF (frameOf b)=0:=errF_of hb hn h4'
    have hbl:(frameOf b).body.length=fN b:=fB_len hn h4'
    have htl:(textF (frameOf b)).length=24+fN b:=by rw[textF_len,hbl]
    have hsec:secs (textF (frameOf b)).length=sOf b:=by rw[htl,hS];rfl
    simp only[putF] at h6
    rw[if_pos he] at h6
    have hbe:b=laid (textF (frameOf b))++b.drop (64 * sOf b):=by rw[h6,List.take_append_drop]
    obtain⟨f,hf⟩:∃ f,frameOf b=f:=⟨_,rfl⟩
    obtain⟨r,hr⟩:∃ r,b.drop (64 * sOf b)=r:=⟨_,rfl⟩
    rw[hf] at hbe hsec htl hbl
    rw[hr] at hbe
    have hfb:fB b=f.body:=by rw[← hf];rfl
    have hall:allF b (sOf b)=padF (textF f):=by
      have:=laid_all (textF f) r
      rw[hsec,← hbe] at this
      exact this
    have hone:head0 b=headF f:=by
      have:=laid_body (textF f) r 0 (by omega)
      rw[← hbe] at this
      simp only[Nat.mul_zero,Nat.zero_add,List.drop_zero] at this
      have e1:head0 b=((b.drop 1).take 63).take 16:=by rw[head0_is,List.take_take];rfl
      rw[e1,this,List.take_take,show min 16 63=16 from rfl]
      unfold padF textF
      rw[List.append_assoc,List.append_assoc,List.take_append_of_le_length (by rw[headF_len];omega),List.take_of_length_le (by rw[headF_len];omega)]
    have h16:(padF (textF f)).take 16=headF f:=by
      unfold padF textF
      rw[List.append_assoc,List.append_assoc,List.take_append_of_le_length (by rw[headF_len];omega),List.take_of_length_le (by rw[headF_len];omega)]
    refine⟨h1,h2,⟨?_,?_,by rw[← fN_head];exact hn⟩,h4',fun i hi=>?_,?_,?_⟩
    · rw[hone]
      rw[show (headF f).take 2=[99,102] by unfold headF;rfl]
      rfl
    · rw[hone]
      unfold hZ
      rw[show ((headF f).drop 3).take 1=[0] by simp[headF,be]]
      rfl
    · have:=laid_mark (textF f) r i (by omega)
      rw[← hbe,at_drop] at this
      exact this
    · rw[hall,h16,hfb]
      unfold padF textF
      have l24:(headF f++(sha (headF f++f.body)).take 8).length=24:=by rw[List.length_append,headF_len,List.length_take,sha_len];rfl
      rw[List.append_assoc,List.take_append_of_le_length (by omega),List.take_of_length_le (by omega),List.drop_append_of_le_length (by rw[headF_len];omega),List.drop_of_length_le (by rw[headF_len];omega),List.nil_append]
    · rw[hall]
      intro x hx
      unfold padF at hx
      rw[List.drop_append_of_le_length (by omega),List.drop_of_length_le (by omega),List.nil_append] at hx
      exact List.eq_of_mem_replicate hx
  · rintro ⟨h1,h2,⟨k1,k2,k3⟩,h4,h5,h6,h7⟩
    have hn:fN b≤60000:=by rw[fN_head];exact k3
    have hS:=sOf_is hn
    have hSi : sectorsF (fN b) = (sOf b : Int) := by unfold sOf;have:0≤sectorsF (fN b):=by unfold sectorsF;split<;>omega
                                                     omega
    have he:errF (frameOf b)=0:=errF_of hb hn h4
    have hbl:(frameOf b).body.length=fN b:=fB_len hn h4
    have htl:(textF (frameOf b)).length=24+fN b:=by rw[textF_len,hbl]
    have hsec:secs (textF (frameOf b)).length=sOf b:=by rw[htl,hS];rfl
    refine⟨h1,h2,by rw[hSi];omega,by rw[hSi];omega,by simp only[putF];exact he,?_⟩
    simp only[putF]
    rw[if_pos he,hSi,show (64 * (sOf b:Int)).toNat=64 * sOf b by omega]
    obtain⟨X,hX⟩:∃ X,allF b (sOf b)=X:=⟨_,rfl⟩
    rw[hX] at h6 h7
    have hXl:X.length=63 * sOf b:=by rw[← hX];exact allF_len _ h4
    have hh:X.take 16=headF (frameOf b):=by
      have e1:X.take 16=head0 b:=by
        rw[← hX]
        have:allF b (sOf b)=allF b 1++(allF b (sOf b)).drop 63:=by
          obtain⟨m,hm⟩:∃ m,sOf b=m+1:=⟨sOf b - 1,by omega⟩
          have e2:allF b 1=(allF b (sOf b)).take 63:=by
            have:=cat_piece (X:=fun i=>(b.drop (64 * i+1)).take 63) (c:=63) (sOf b) (fun j hj=>by rw[List.length_take,List.length_drop];omega) 0 (by omega) []
            rw[Nat.mul_zero,List.drop_zero,List.append_nil] at this
            unfold allF
            rw[this]
            rfl
          rw[e2,List.take_append_drop]
        rw[this,List.take_append_of_le_length (by rw[allF_len 1 (by omega)];omega)]
        rfl
      rw[e1,head_is (head0_len h1) (head0_bytes hb) k1 k2]
      unfold headF
      have:(frameOf b).body.length=hN (head0 b):=by rw[hbl,fN_head]
      rw[this]
      show _=[99,102]++be ((fK b:Nat):Int).toNat 1++be 0 1++be ((fG b:Nat):Int).toNat 4++be ((fS b:Nat):Int).toNat 4++be (hN (head0 b)) 4
      rw[Int.toNat_natCast,Int.toNat_natCast,Int.toNat_natCast,fK_head,fG_head,fS_head]
    have hfB:fB b=(X.take (24+fN b)).drop 24:=by rw[← hX];rfl
    have hpad:padF (textF (frameOf b))=X:=by
      have z:X.drop (24+fN b)=List.replicate (63 * sOf b - (24+fN b)) 0:=by
        rw[List.eq_replicate_iff]
        exact⟨by rw[List.length_drop,hXl],h7⟩
      unfold padF
      rw[htl,show secs (24+fN b)=sOf b by rw[← htl];exact hsec,← z]
      have t1:textF (frameOf b)=X.take (24+fN b):=by
        unfold textF
        rw[← hh]
        have:(frameOf b).body=(X.take (24+fN b)).drop 24:=hfB
        rw[this,← hfB,← h6,hfB]
        have s1:X.take 24=(X.take (24+fN b)).take 24:=by rw[List.take_take,show min 24 (24+fN b)=24 by omega]
        have s2:X.take 16=(X.take 24).take 16:=by rw[List.take_take];rfl
        rw[s2,List.take_append_drop,s1,List.take_append_drop]
      rw[t1,List.take_append_drop]
    rw[laid_is,hsec,hpad,← cat_pieces b 64 (sOf b)]
    refine cat_congr _ (fun i hi=>?_)
    have hp:=cat_piece (X:=fun i=>(b.drop (64 * i+1)).take 63) (c:=63) (sOf b) (fun j hj=>by rw[List.length_take,List.length_drop];omega) i hi []
    rw[List.append_nil] at hp
    have hp2:(X.drop (63 * i)).take 63=(b.drop (64 * i+1)).take 63:=by rw[← hX];exact hp
    rw[hp2,← h5 i hi]
    have hlt:64 * i < b.length:=by omega
    have hd:b.drop (64 * i)=at_ b (64 * i) :: b.drop (64 * i+1):=by
      rw[List.drop_eq_getElem_cons hlt]
      congr 1
      simp[at_,hlt]
    rw[hd]
    rfl
theorem get_no {b:List Int}(hb:Bytes b) (h:¬ codeOk b):getF b=(noF,0,2):=by unfold getF;rw[if_neg (fun k=>h ((ok_code hb).1 k))]
theorem get_yes {b:List Int}(hb:Bytes b) (h:codeOk b):getF b=(frameOf b,(sOf b:Int),0):=by
  have h3:=(ok_code hb).2 h
  have hn:fN b≤60000:=by rw[fN_head];exact h.2.2.1.2.2
  have hSi : sectorsF (fN b) = (sOf b : Int) := by unfold sOf;have:0≤sectorsF (fN b):=by unfold sectorsF;split<;>omega
                                                   omega
  unfold getF;rw[if_pos h3,hSi]
end Go.Proofs.YtidjkhpekhpffaaGreat.Frame
namespace Go.Proofs.YtidjkhpekhpffaaGreat.Journal
open Go.Proofs.YtidjkhpekhpffaaGreat.Sha Go.Proofs.YtidjkhpekhpffaaGreat.Disk Go.Proofs.YtidjkhpekhpffaaGreat.Frame
def textM (s:DS) (half m k:Nat):List Int:=cat (fun i=>rowOf s.now (half * hn s+m+i)) k
theorem textM_all (s:DS) (half m:Nat):textM s half m (hn s - m)=textJ s half m:=rfl
theorem textM_len {n:Nat}{s:DS}(h:WF n s) {half m k:Nat}(hh:half≤1) (hk:m+k≤hn s):(textM s half m k).length=64 * k:=by
 have hhn:=wf_hn h
 refine cat_len (c:=64) k (fun j hj=>?_)
 have:half * hn s≤hn s:=by rcases(show half=0∨half=1 by omega) with e|e<;>subst e<;>omega
 exact((h.secs _ (by omega)).1).1
theorem readD_at {n:Nat}{s:DS}(h:WF n s) (hd:s.down=false) {j:Nat}(hj:j < n):readD s (j:Nat)=(0,rowOf s.now j):=by
 unfold readD
 rw[if_neg (by simp[hd]),if_neg (by unfold noSector;rw[h.now];omega),Int.toNat_natCast]
theorem getF_bounds {b:List Int}(hb:Bytes b) (h:(getF b).2.2=0):0≤(getF b).1.gen∧(getF b).1.gen≤4294967295∧(getF b).1.seq≤4294967295∧1≤(getF b).2.1.toNat∧64 * (getF b).2.1.toNat≤b.length∧(getF b).2.1=((getF b).2.1.toNat:Nat):=by
 unfold getF at h ⊢
 by_cases hk:getOk b
 ·rw[if_pos hk] at h ⊢
  have h2:fG b < 4294967296:=val4 _ ((((hb.take _).drop _).drop _).take _) (by simp;omega)
  have h3:fS b < 4294967296:=val4 _ ((((hb.take _).drop _).drop _).take _) (by simp;omega)
  obtain⟨-,-,k3,k4,-⟩:=hk
  have k0:0≤sectorsF (fN b):=by unfold sectorsF;split<;>omega
  simp only[frameOf]
  omega
 ·rw[if_neg hk] at h
  simp at h
theorem text_bytes {n:Nat}{s:DS}(hwf:WF n s) {half m:Nat}(hh:half≤1):Bytes (textJ s half m):=by
 have hhn:=wf_hn hwf
 rw[← textM_all]
 unfold textM
 have:∀ k,k≤hn s - m→Bytes (cat (fun i=>rowOf s.now (half * hn s+m+i)) k):=fun k=>by
  induction k with
  | zero=>intro _ z hz;simp[cat] at hz
  | succ k ih =>
   intro hk
   refine(ih (by omega)).append ?_
   have:half * hn s≤hn s:=by rcases(show half=0∨half=1 by omega) with e|e<;>subst e<;>omega
   exact((hwf.secs _ (by omega)).1).2
 exact this _ (Nat.le_refl _)
theorem text_len {n:Nat}{s:DS}(hwf:WF n s) {half m:Nat}(hh:half≤1):(textJ s half m).length=64 * (hn s - m):=by
 rcases Nat.le_total m (hn s) with hle|hle
 ·rw[← textM_all];exact textM_len hwf hh (by omega)
 ·rw[← textM_all,show hn s - m=0 by omega];rfl
end Go.Proofs.YtidjkhpekhpffaaGreat.Journal
namespace Go.Proofs.YtidjkhpekhpffaaGreat.Vault
open Go.Proofs.YtidjkhpekhpffaaGreat.Num Go.Proofs.YtidjkhpekhpffaaGreat.Sha Go.Proofs.YtidjkhpekhpffaaGreat.Purse Go.Proofs.YtidjkhpekhpffaaGreat.Escrow Go.Proofs.YtidjkhpekhpffaaGreat.Wire Go.Proofs.YtidjkhpekhpffaaGreat.Req Go.Proofs.YtidjkhpekhpffaaGreat.Disk Go.Proofs.YtidjkhpekhpffaaGreat.Frame
theorem clockL_at (l:Ledger.LS) (c:Int):Ledger.clockL l (atV l c)=Ledger.clockL l c:=by
 unfold atV
 by_cases h:Tck c∧l.clock < c
 ·have e:(Ledger.clockL l c).clock=c:=by unfold Ledger.clockL;rw[if_pos h]
  rw[e]
 ·have e:Ledger.clockL l c=l:=by unfold Ledger.clockL;rw[if_neg h]
  rw[e]
  unfold Ledger.clockL
  rw[if_neg (fun q=>by have:=q.2;omega)]
theorem applyL_at (l:Ledger.LS) (p c:Int) (x:BV):Ledger.applyL l p (atV l c) x=Ledger.applyL l p c x:=by
 unfold Ledger.applyL
 rw[clockL_at]
theorem doV_l (v:VS) (p:Nat) (seq c:Int) (x:BV):(doV v p seq (atV v.l c) x).l=(Ledger.applyL v.l p c x).2:=by
 show (Ledger.applyL v.l p (atV v.l c) x).2=_
 rw[applyL_at]
def Large (s0:Ledger.LS) (n:Nat):Prop:=(24+(14+63 * s0.cap.toNat+220 * s0.b.p.np)+62) / 63+(24+3300+62) / 63≤n / 2
structure Ok (s0:Ledger.LS) (n:Nat) (m:MV):Prop where
 up:Up s0 n m.s m.j m.v
 down:m.down=false
 fuse:m.s.fuse=-1
 large:Large s0 n
section
variable {s0 : Ledger.LS} {n : Nat} {m : MV} {x : BV} {b : List Int} {p : Nat} {seq clock de : Int}
theorem Ok.wv (h:Ok s0 n m):WV s0 m.v:=by
 obtain⟨v0,hr⟩:=h.up.rep
 exact hr.wv
theorem handle_next (h:Ok s0 n m) (hp:p < m.v.t.length) (hs:seq=(tAt m.v p).seq+1) (hq:seq≤4294967295) (he:encB x=(0,b)) (hok:∀ r∈x.l,r.ok) (hl:b.length≤3287) (hg:m.j.gen+1≤4294967295) :
  ∃ m',handleM m p seq clock b 0 x=((0,bytesA (Ledger.applyL m.v.l p clock x).1),m')∧Ok s0 n m'∧m'.v=doV m.v p seq (atV m.v.l clock) x∧m'.served=m.served+1∧m'.j.gen≤m.j.gen+1:=by
 have hw:=h.wv
 have hby:Bytes b:=by
  have:=encB_bytes hok
  rw[he] at this
  exact this
 have ht:=atV_tick hw.wl clock
 have h0:=(tAt_seq hw hp).1
 have hroom:Journal.kF (pictV m.v)+Journal.kF (recV p seq (atV m.v.l clock) b)≤Journal.hn m.s:=by
  have h1:=(pictV_le hw).1
  have h2:=recV_len p seq (atV m.v.l clock) b
  have h3:=Journal.wf_hn h.up.k.wf
  have h4:=h.large
  unfold Large at h4
  unfold Journal.kF
  rw[h3,h2]
  omega
 rcases store_room (v':=doV m.v p seq (atV m.v.l clock) x) h.up (rec:=recV p seq (atV m.v.l clock) b) (recV_bytes hby) (by rw[recV_len];omega) (fun j' v1 k=>by
  have:=k.plus hp (by omega) ht.1 ht.2 he hok
  rw[← hs] at this
  exact this) hg hroom with⟨t,j',e,k,hfu,hge⟩|⟨hf,-⟩
 ·refine⟨⟨t,j',doV m.v p seq (atV m.v.l clock) x,false,m.served+1⟩,?_,⟨k,rfl,hfu h.fuse,h.large⟩,rfl,rfl,hge⟩
  unfold handleM
  have hpz:((p:Int)).toNat=p:=Int.toNat_natCast p
  rw[if_neg (by rw[h.down];decide),if_neg (by omega),hpz,if_neg (by omega),if_neg (by omega),if_neg (by decide)]
  dsimp only
  rw[e,if_pos rfl,applyL_at]
 ·exact absurd h.fuse hf
theorem handle_same (h:Ok s0 n m) (hp:p < m.v.t.length) (hs:seq=(tAt m.v p).seq) (h0:0 < seq):handleM m p seq clock b de x=((0,bytesA (tAt m.v p).a),m):=by
 unfold handleM
 have hpz:((p:Int)).toNat=p:=Int.toNat_natCast p
 rw[if_neg (by rw[h.down];decide),if_neg (by omega),hpz,if_pos ⟨h0,hs⟩]
theorem handle_stale (h:Ok s0 n m) (hp:p < m.v.t.length) (hs:seq≠(tAt m.v p).seq+1) (h0:¬ (0 < seq∧seq=(tAt m.v p).seq)):handleM m p seq clock b de x=((5,[]),m):=by
 unfold handleM
 have hpz:((p:Int)).toNat=p:=Int.toNat_natCast p
 rw[if_neg (by rw[h.down];decide),if_neg (by omega),hpz,if_neg h0,if_pos (.inl hs)]
theorem tAt_set {v:VS}{q:Nat}{s:Int}{c:Int}(hp:p < v.t.length):tAt (doV v p s c x) q=if q=p then ⟨s,x.seen,(Ledger.applyL v.l p c x).1⟩ else tAt v q:=by
 unfold tAt doV
 dsimp only
 rw[List.getD_eq_getElem?_getD,List.getElem?_set]
 by_cases h:p=q
 ·subst h;rw[if_pos rfl,if_pos rfl,if_pos hp];rfl
 ·rw[if_neg h,if_neg (Ne.symm h),List.getD_eq_getElem?_getD]
theorem doV_len (v:VS) (p:Nat) (s c:Int) (x:BV):(doV v p s c x).t.length=v.t.length:=by simp[doV]
theorem tAt_new (s0:Ledger.LS) (k q:Nat):tAt (newV s0 k) q=T0:=by
 unfold tAt newV
 rw[List.getD_eq_getElem?_getD,List.getElem?_replicate]
 split<;>rfl
theorem ok_new (w:Ledger.WL s0) (wi:Ledger.WI s0) (h0:s0.e=[]) (hl:Large s0 n) (h1:1≤n) (h2:n≤8192):Ok s0 n ⟨newD n,Journal.noJ,newV s0 s0.b.p.np,false,0⟩ :=
 ⟨⟨Journal.keeps_new (wf_new n h1 h2) (fun j hj=>rowOf_replicate n j hj),rfl,rfl,rfl,_,rep_new w wi h0⟩,rfl,rfl,hl⟩
end
end Go.Proofs.YtidjkhpekhpffaaGreat.Vault
