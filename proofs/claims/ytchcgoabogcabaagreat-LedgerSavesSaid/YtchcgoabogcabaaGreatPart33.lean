/-
  Parts laid together: LedgerR5.
-/
import Derived.Test.YtchcgoabogcabaaGreatPart32
import Derived.Test.YtchcgoabogcabaaGreatPart16
import Derived.Test.YtchcgoabogcabaaGreatPart12
import Derived.Test.YtchcgoabogcabaaGreatPart5
import Derived.LoopN
namespace Go.Proofs.YtchcgoabogcabaaGreat.Ledger
open Go.RowKit Go.Proofs.YtchcgoabogcabaaGreat.Num Go.Proofs.YtchcgoabogcabaaGreat.Sha Go.Proofs.YtchcgoabogcabaaGreat.Purse Go.Proofs.YtchcgoabogcabaaGreat.Escrow Go.Proofs.YtchcgoabogcabaaGreat.Wire Go.Proofs.YtchcgoabogcabaaGreat.Req
theorem flat_snoc5 {α:Type}{f:α→List Int}{l:List α}{k:Nat}{x:α}(h:l[k]?=some x):(l.take (k+1)).flatMap f=(l.take k).flatMap f++f x:=by
 obtain⟨hk,rfl⟩:=List.getElem?_eq_some_iff.1 h
 rw[List.take_succ_eq_append_getElem hk,List.flatMap_append,List.flatMap_singleton]
theorem en_new5 {w w':World}{e:Nat}(hb:Blk w e 122 #[.slice none 0 0,.int .i64 0]) (b:Below w.heap.size w w'):En 122 w' [e] e (0,[]) :=
 ⟨.slice none 0 0,hb.below b hb.lt,World.ownsRow_nil _ _ _ _,rfl⟩
def RSavePost (s:LS) (w:World) (e:Ending) (w':World):Prop:=∃ A n c,e=.returned (.tuple #[.slice A n c,.int .i64 0])∧n≤c∧c≤9223372036854775807∧Rd w' A n (saveL s)∧Below w.heap.size w w'
theorem Dk.row0 {w:World}{F:List Nat}{x k:Nat}{s:LS}{y:LE}(h:Dk w F x s) (hy:s.e[k]?=some y):∃ b o c,w.cell? ⟨x,4,none⟩=some (.slice (some ⟨b,o,none⟩) s.e.length c)∧∀ j v,(vvC y.v)[j]?=some v→w.cell? ⟨b,o+k * 9+j,none⟩=some v:=by
 obtain⟨F0,b,q,st,d,d1,d2,h,rfl⟩:=h
 obtain⟨A,c,hd,h1,-,-,h4⟩:=h.events
 have hk:=(List.getElem?_eq_some_iff.1 hy).1
 obtain⟨g,o,z,rfl,hz,hc⟩:=h4.at_ hk
 have:z=y.v:=by
  simp only[evs,List.getElem?_map,hy,Option.map_some] at hz
  injection hz with hz;exact hz.symm
 subst this
 exact⟨g,o,c,h1,hc⟩
theorem Dk.row1 {w:World}{F:List Nat}{x k:Nat}{s:LS}{y:LE}(h:Dk w F x s) (hy:s.e[k]?=some y):∃ b o c,w.cell? ⟨x,5,none⟩=some (.slice (some ⟨b,o,none⟩) s.e.length c)∧w.cell? ⟨b,o+k,none⟩=some (.int .i64 y.who):=by
 obtain⟨F0,b,q,st,d,d1,d2,h,rfl⟩:=h
 obtain⟨A,c,hd,h1,-,-,h4⟩:=h.whos
 have hk:=(List.getElem?_eq_some_iff.1 hy).1
 obtain⟨g,o,z,rfl,hz,hc⟩:=h4.at_ hk
 have:z=y.who:=by
  simp only[who,List.getElem?_map,hy,Option.map_some] at hz
  injection hz with hz;exact hz.symm
 subst this
 have:=hc 0 _ rfl
 rw[Nat.mul_one,Nat.add_zero] at this
 exact⟨g,o,c,h1,this⟩
theorem Dk.row2 {w:World}{F:List Nat}{x k:Nat}{s:LS}{y:LE}(h:Dk w F x s) (hy:s.e[k]?=some y):∃ b o c,w.cell? ⟨x,6,none⟩=some (.slice (some ⟨b,o,none⟩) s.e.length c)∧w.cell? ⟨b,o+k,none⟩=some (.int .i64 y.at_):=by
 obtain⟨F0,b,q,st,d,d1,d2,h,rfl⟩:=h
 obtain⟨A,c,hd,h1,-,-,h4⟩:=h.nows
 have hk:=(List.getElem?_eq_some_iff.1 hy).1
 obtain⟨g,o,z,rfl,hz,hc⟩:=h4.at_ hk
 have:z=y.at_:=by
  simp only[whens,List.getElem?_map,hy,Option.map_some] at hz
  injection hz with hz;exact hz.symm
 subst this
 have:=hc 0 _ rfl
 rw[Nat.mul_one,Nat.add_zero] at this
 exact⟨g,o,c,h1,this⟩
theorem Dk.len {w:World}{F:List Nat}{x:Nat}{s:LS}(h:Dk w F x s):∃ A c,w.cell? ⟨x,4,none⟩=some (.slice A s.e.length c)∧w.cell? ⟨x,3,none⟩=some (.int .i64 s.clock):=by
 obtain⟨F0,b,q,st,d,d1,d2,h,rfl⟩:=h
 obtain⟨A,c,hd,h1,-⟩:=h.events
 exact⟨A,c,h1,h.c3⟩
structure Sv (w:World) (M:Nat) (F G:List Nat) (x:Nat) (s:LS) (wr:World) (xs:List Int):Prop where
 e:En 122 wr G M (0,xs)
 g:∀ f∈G,M≤f
 b:Below M w wr
 l:Dk wr F x s
 lo:∀ f∈F,f < M
section
variable {w wr wr' : World} {M x : Nat} {F G G' : List Nat} {s : LS} {xs ys : List Int}
theorem Sv.step (h:Sv w M F G x s wr xs) (hM:M≤w.heap.size) (e:En 122 wr' G' M (0,ys)) (fp:Fp G G' wr wr'):Sv w M F G' x s wr' ys :=
 ⟨e,fp.least h.g (Nat.le_trans hM h.b.size),h.b.trans (fp.below h.g (Nat.le_trans hM h.b.size)),h.l.keep fp.1 (fun k hk hm=>by have:=h.lo k hk;have:=h.g k hm;omega),h.lo⟩
theorem leflat_len {l:List LE}(h:∀ y∈l,MayV y.v):(l.flatMap putLE).length≤63 * l.length:=flat_len (f:=putLE) (m:=63) (l:=l) (fun y hy=>by
 have:=putV_len (h y hy)
 simp only[putLE,List.length_append,be_len];omega)
set_option maxRecDepth 100000 in
set_option maxHeartbeats 4000000 in
theorem rsave_any (W:WL s) (h:Dk w F x s):Calls Tryz.prog 16 #[.pointer (some ⟨x,0,none⟩)] w (RSavePost s w):=by
 obtain⟨M,hM⟩:∃ M,w.heap.size=M:=⟨_,rfl⟩
 have b1:Below M w (w.alloc (.cells #[.slice none 0 0,.int .i64 0] 122)):=(Below.refl _ _).alloc (by omega) _
 have HM:Kept (M≤w.heap.size):=⟨by omega⟩
 have S:Kept (Sv w M F [M] x s (w.alloc (.cells #[.slice none 0 0,.int .i64 0] 122)) []):=⟨⟨en_new5 (Blk.new_at w _ _ M hM.symm) (Below.refl _ _),by simp,b1,h.below (by rw[hM];exact b1),fun f hf=>by have:=h.lts f hf;omega⟩⟩
 have HW:=Kept.mk W
 have HLN:=Kept.mk W.len
 clear b1 h W
 go_enter Tryz.func16,Tryz.ntmps16
 go_upto_region 2 with(fail)
 generalize (w.alloc (.cells #[.slice none 0 0,.int .i64 0] 122))=w1 at *
 (try rw[hM])
 obtain⟨A4,c4,x4,x3⟩:=S.out.l.len
 have KC:=rnum_any w1 [M] M s.clock 8 (0,[]) S.out.e (by simp)
 rw[rn8 _ HW.out.clock.amt] at KC
 go_wp2_with fail
 refine KC.mono ?_
 rintro x' w2 ⟨rfl,F2,he,fp⟩
 replace S:=Kept.mk (S.out.step HM.out he fp)
 clear he fp KC x4 x3
 obtain⟨A4,c4,x4,x3⟩:=S.out.l.len
 have KC:=rnum_any w2 F2 M (s.e.length:Nat) 2 (0,[]++be s.clock.toNat 8) S.out.e (by simp only[List.length_append,be_len,List.length_nil];omega)
 rw[rn2 _ ⟨by omega,by have:=HLN.out;omega⟩,Int.toNat_natCast] at KC
 go_wp2_with fail
 refine KC.mono ?_
 rintro x' w3 ⟨rfl,F3,he,fp⟩
 replace S:=Kept.mk (S.out.step HM.out he fp)
 have S2:Kept (Sv w M F F3 x s w3 (be s.clock.toNat 8++(be s.e.length 2++(s.e.take 0).flatMap putLE))):=⟨by simpa [List.append_assoc] using S.out⟩
 clear he fp KC x4 x3 S
 go_wp2
 go_loopw [5] (fun i wr=>∃ (k:Nat) (G:List Nat),k≤s.e.length∧i=.int .i64 k∧Kept (Sv w M F G x s wr (be s.clock.toNat 8++(be s.e.length 2++(s.e.take k).flatMap putLE)))) (fun i _=>s.e.length - (Go.RowKit.intOf i).toNat)
 case atStart=>exact⟨0,F3,by omega,rfl,S2⟩
 case round =>
  clear S2
  obtain⟨k,G,hk,rfl,S⟩:=hrel
  obtain⟨A4,c4,x4,x3⟩:=S.out.l.len
  by_cases hkl:k < s.e.length
  ·as_aux_lemma =>
   have hkl':(k:Int) < s.e.length:=by omega
   obtain⟨y,hy⟩:∃ y,s.e[k]?=some y:=⟨_,List.getElem?_eq_getElem hkl⟩
   have hym:=List.mem_of_getElem? hy
   have HY:=Kept.mk hy
   have hE:=HW.out.each y hym
   have HMV:=Kept.mk hE.1;have HOK:=Kept.mk hE.2.1
   have HB8:=Kept.mk (HW.out.who hym);have HTK:=Kept.mk hE.2.2.2
   have hlen:=leflat_len (l:=s.e.take k) (fun z hz=>(HW.out.each z (List.mem_of_mem_take hz)).1)
   have hs:=flat_snoc5 (f:=putLE) hy
   obtain⟨hd,hhd⟩:∃ hd,be s.clock.toNat 8++(be s.e.length 2++(s.e.take k).flatMap putLE)=hd:=⟨_,rfl⟩
   have HN:Kept (((hd++be y.who.toNat 1)++be y.at_.toNat 8)++putV y.v=be s.clock.toNat 8++(be s.e.length 2++(s.e.take (k+1)).flatMap putLE)):=⟨by rw[hs,← hhd];simp only[List.append_assoc,putLE]⟩
   have HHL:Kept (hd.length≤30000):=⟨by
    rw[← hhd]
    have:=HLN.out
    rw[List.length_take] at hlen
    simp only[List.length_append,be_len]
    have h2:min k s.e.length≤400:=by omega
    have h3:=Nat.mul_le_mul_left 63 h2
    omega⟩
   rw[hhd] at S
   clear hhd hs hlen hE hym hy x3
   obtain⟨b5,o5,c5,x5,y5⟩:=S.out.l.row1 HY.out
   have KC:=rnum_any wr G M y.who 1 (0,hd) S.out.e (by have:=HHL.out;dsimp only;omega)
   rw[rn1 _ HB8.out] at KC
   go_wp2_with fail
   refine KC.mono ?_
   rintro x' w6 ⟨rfl,F6,he,fp⟩
   replace S:=Kept.mk (S.out.step HM.out he fp)
   clear he fp KC x4 x5 y5
   obtain⟨b5,o5,c5,x5,y5⟩:=S.out.l.row2 HY.out
   have KC:=rnum_any w6 F6 M y.at_ 8 (0,hd++be y.who.toNat 1) S.out.e (by have:=HHL.out;simp only[List.length_append,be_len];omega)
   rw[rn8 _ HTK.out.amt] at KC
   go_wp2_with fail
   refine KC.mono ?_
   rintro x' w7 ⟨rfl,F7,he,fp⟩
   replace S:=Kept.mk (S.out.step HM.out he fp)
   clear he fp KC x5 y5
   obtain⟨b4,o4,c5,x4,hcell⟩:=S.out.l.row0 HY.out
   have KC:=rputv_any S.out.e HMV.out HOK.out (by have:=HHL.out;simp only[List.length_append,be_len];omega)
   rw[HN.out] at KC
   obtain⟨⟨kind,src,dst,asset,amount,id,due,hash,sec⟩,yw,ya⟩:=y
   have y0:=hcell 0 _ rfl;have y1:=hcell 1 _ rfl;have y2:=hcell 2 _ rfl;have y3:=hcell 3 _ rfl;have y4:=hcell 4 _ rfl;have y5:=hcell 5 _ rfl;have y6:=hcell 6 _ rfl;have y7:=hcell 7 _ rfl;have y8:=hcell 8 _ rfl
   rw[Nat.add_zero] at y0
   dsimp only at y0 y1 y2 y3 y4 y5 y6 y7 y8
   unfold vqv at KC
   dsimp only at KC
   have KC2:=Kept.mk KC
   clear hcell KC HN
   go_wp2_with fail
   refine KC2.out.mono ?_
   rintro x' w8 ⟨rfl,F8,he,fp⟩
   replace S:=Kept.mk (S.out.step HM.out he fp)
   clear he fp KC2 x4 y0 y1 y2 y3 y4 y5 y6 y7 y8
   have hl4:=HLN.out
   go_wp2
   go_roundw
   case rel=>exact⟨k+1,F8,by omega,by go_num,S⟩
   case measure=>simp[Go.RowKit.intOf];omega
  ·as_aux_lemma =>
   have hkl':¬ (k:Int) < s.e.length:=by omega
   obtain rfl:k=s.e.length:=by omega
   have S2:Kept (Sv w M F G x s wr (saveL s)):=⟨by have:=S.out;rw[List.take_length] at this;exact this⟩
   have KC:=rdone2_any wr G M (0,saveL s) S2.out.e (fun _=>saveL_bytes HW.out)
   unfold RDonePost2 at KC
   have KC2:=Kept.mk KC
   clear KC S x3
   go_wp2_with fail
   refine KC2.out.mono ?_
   rintro x' w8 ⟨A,n,c,rfl,h1,h2,h3,h4⟩
   have B:=Kept.mk (S2.out.b.trans (h4.mono (Nat.le_trans HM.out S2.out.b.size)))
   have H3:=Kept.mk h3
   clear KC2 S2 h3 h4 x4
   go_wp2
   go_ret2
   exact⟨A,n,c,rfl,h1,h2,by simpa using H3.out,by rw[hM];exact B.out⟩
end
end Go.Proofs.YtchcgoabogcabaaGreat.Ledger
