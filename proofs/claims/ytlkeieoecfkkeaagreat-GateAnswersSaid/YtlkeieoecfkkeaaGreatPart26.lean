/-
  Parts laid together: JSmall JRecords.
-/
import Derived.Test.YtlkeieoecfkkeaaGreatPart1
import Derived.Test.YtlkeieoecfkkeaaGreatPart19
import Derived.Test.YtlkeieoecfkkeaaGreatPart17
import Derived.Test.YtlkeieoecfkkeaaGreatPart6
import Derived.Deep.RegionHeld3
import Derived.Test.YtlkeieoecfkkeaaGreatPart7
set_option maxRecDepth 100000
set_option maxHeartbeats 1000000
namespace Go.Proofs.YtlkeieoecfkkeaaGreat
namespace Journal
open Go.RowKit Sha Disk Go.Proofs.YtlkeieoecfkkeaaGreat.Frame
theorem tZ {w:World}{F:List Nat}{d j n:Nat}{s:DS}(h:Dk w F d n s) (hj:w.cell? ⟨j,1,none⟩=some (.pointer (some ⟨d,0,none⟩))) :
  Calls Tryz.prog 80 #[.pointer (some ⟨j,0,none⟩)] w fun e w'=>e=.returned (.int .i64 ((n / 2:Nat):Int))∧w=w':=by
 have hn8:=h.1.n2
 have cL:=ae.mk (jm h)
 have hq:Int.tdiv (n:Int) 2=((n / 2:Nat):Int):=by rw[Int.tdiv_eq_ediv_of_nonneg (by omega)];omega
 obtain⟨M,hM⟩:∃ M,n / 2=M:=⟨_,rfl⟩
 have hM9:M≤4096:=by omega
 rw[hM] at hq ⊢
 have hW:wrap64 (M:Int)=(M:Int):=by unfold wrap64;omega
 clear h hM hn8
 go_enter Tryz.func80,Tryz.ntmps80
 go_wp2_with fail
 refine cL.out.mono ?_
 rintro e w' ⟨rfl,rfl⟩
 clear cL
 go_wp2
 go_ret
 exact⟨rfl,rfl⟩
theorem UC {w:World}{G:List Nat}{j t d n:Nat}{v:JV}(h:Cj w G j t d n v) :
  Calls Tryz.prog 47 #[.pointer (some ⟨j,0,none⟩)] w (uT w v):=by
 have hl:=h.ok.pict
 obtain⟨A,m,c,vr,rm,K,h1,-,-,r,-⟩:=h
 have x5:w.cell? ⟨j,5,none⟩=some (.slice A m c):=h1.cell 5
 have x4:w.cell? ⟨j,4,none⟩=some (.bool v.has):=h1.cell 4
 have hm:=r.1
 have CL:=ae.mk (clone_any A m c v.pict w.drew r.drew (by omega))
 have HR:=ae.mk r
 have jl:j < w.heap.size:=h1.lt
 clear h1 r
 go_enter Tryz.func47,Tryz.ntmps47
 go_upto_region 1 with(fail)
 refine wp_region_noPanic ?_
 refine wp_region_held_drew (S:=fun w':World=>w'.cell? ⟨j,5,none⟩=some (.slice A m c)∧w'.cell? ⟨j,4,none⟩=some (.bool v.has)) (by kernel_rfl) ⟨x5,x4⟩ (fun hHeld=>?_)
 clear x5 x4
 refine tk 0 ?_
 simp only[Act.put,zA,zB,zC]
 refine tk 1 ?_
 simp only[Act.put,zA,zB,zC]
 refine tk 2 ?_
 simp only[Act.put,zA,zB,zC]
 refine tk 3 ?_
 simp only[Act.put,zA,zB,zC]
 refine tk 4 ?_
 simp only[Act.put,zA,zB,zC]
 refine tk 6 ?_
 simp only[Act.put,zA,zB,zC]
 refine tk 7 ?_
 simp only[Act.put,zA,zB,zC]
 refine tk 8 ?_
 simp only[Act.put,zA,zB,zC]
 refine tk 9 ?_
 simp only[Act.put,zA,zB,zC]
 refine tk 10 ?_
 simp only[Act.put,zA,zB,zC]
 refine ld 5 (fun K hK=>?_)
 go_simp
 go_at_call 32
 refine CL.out.mono ?_
 rintro e w1 ⟨vp,rfl,own,bel⟩
 have y5:w1.cell? ⟨j,5,none⟩=some (.slice A m c):=(bel.cell (p:=⟨j,5,none⟩) jl).trans hHeld.1
 have y4:w1.cell? ⟨j,4,none⟩=some (.bool v.has):=(bel.cell (p:=⟨j,4,none⟩) jl).trans hHeld.2
 refine hK.out _ _ ⟨y5,y4⟩ (fun _=>?_)
 obtain⟨A1,c1,rfl,k1,k2,k3⟩:=aO own HR.out.2.1
 have PG:=ae.mk (show uT w v (.returned (.tuple #[.slice A1 m c1,.bool v.has])) w1 from⟨A1,m,c1,rfl,k1,k2,k3,(Below.refl _ _).drew.trans (show Below w.heap.size w.drew w1 from bel)⟩)
 clear hK K hHeld own bel k1 k2 k3 y5 y4
 try simp only[Act.put,zA,zB,zC]
 refine tk 11 ?_
 simp only[Act.put,zA,zB,zC]
 refine tk 12 ?_
 simp only[Act.put,zA,zB,zC]
 refine wpAnyH_done (by kernel_rfl) ?_ _
 refine NoPanic.normal ?_
 go_wp2
 go_ret2
 exact PG.out
theorem kY:(Tryz.prog.info? 22).map (fun i=>(i.zero,i.size,i.bytes))=some (some (.slice none 0 0),1,24):=by kernel_rfl
theorem qC (w:World) (n:Nat) (hn:n≤100000):∃ w',(Instr.makeSlice 124 (.int .i64 (n:Int)) (.int .i64 (n:Int))).run Tryz.prog w=.ok (.slice (some ⟨w.heap.size,0,none⟩) n n) w'∧Blk w' w.heap.size 22 (List.replicate n (Value.slice none 0 0)).toArray∧Below w.heap.size w w':=by
 obtain⟨iu,hi,hz0,hz1,hz2⟩:=info_parts kY
 obtain⟨w',hm,own,gr⟩:=run_makeSlice_full (P:=Tryz.prog) w w.heap.size 124 22 iu _ 1 Tryz.underlying124 hi hz0 hz1 .i64 .i64 n (by omega) (by rw[hz2];omega) (by unfold maxLen;omega) (Nat.le_refl _)
 refine⟨w',hm,?_,⟨gr.os,gr.tape,gr.output,gr.size,fun k hk=>gr.block k hk (by simp)⟩⟩
 have e:(madeCells (Value.slice none 0 0).cells (n * 1)).toList=List.replicate n (Value.slice none 0 0):=by
  rw[show (Value.slice none 0 0).cells=#[.slice none 0 0] from rfl,toList_madeCells_one,Nat.mul_one]
 rw[e] at own
 rcases own.2 with⟨h0,-⟩|⟨g,cap,cur,hv,-,hh,h1,-,hs,ht⟩
 ·cases h0
 ·have hv2:w.heap.size=g∧n=cap:=by
   have:=hv
   simp only[Value.slice.injEq,Option.some.injEq,Addr.mk.injEq] at this
   omega
  obtain⟨hg,rfl⟩:=hv2
  rw[hg]
  have:cur=(List.replicate n (Value.slice none 0 0)).toArray:=by
   apply Array.toList_inj.1
   rw[List.take_of_length_le (by simp;omega)] at ht
   rw[ht]
  rw[← this]
  exact hh
def lenI:Value→Int|.int _ q=>q|_=>0
def Rk (w:World) (N k n:Nat) (L:List (List Int)):Prop:=∃ cs:Array Value,cs.size=n∧Blk w N 22 cs∧∀ i,i < k→∃ a l c,cs[i]?=some (.slice a l c)∧l≤c∧c≤9223372036854775807∧Rd w a l (rowOf L i)∧Off a l [N]∧∀ F:List Nat,(∀ q∈F,q < N)→Off a l F
theorem UD {w w1:World}{N k n:Nat}{L:List (List Int)}(h:Rk w N k n L) (b:Below w.heap.size w w1) {v:Value}{l:Nat}(hk:k < n) (hl:(rowOf L k).length=l) (hb:Bytes (rowOf L k)) (own:w1.ownsRow w.heap.size 5 1 v l (ints .u8 (rowOf L k))) :
  ∃ A1 c1,v=.slice A1 l c1∧((∃ u,w1.cell? ⟨N,k,none⟩=some u)∧w1.frozen? ⟨N,k,none⟩=false)∧Rk (w1.setCell ⟨N,k,none⟩ (.slice A1 l c1)) N (k+1) n L:=by
 obtain⟨cs,h1,h2,h3⟩:=h
 have h2':=h2.below b h2.lt
 obtain⟨A1,c1,rfl,k1,k2,k3⟩:=aO own hb
 have hbar:Bar [N] w1 (w1.setCell ⟨N,k,none⟩ (.slice A1 l c1)):=(Bar.refl _ _).setCell (by simp) _
 have off1:Off A1 l [N]:=eH own (fun q hq hm=>by
  have:=(own.lt q (by simpa using hq)).1
  have:=h2.lt
  simp at hm
  omega)
 refine⟨A1,c1,rfl,⟨⟨cs[k]'(by omega),by rw[h2'.cell];simp[h1,hk]⟩,h2'.frozen k⟩,cs.setIfInBounds k (.slice A1 l c1),by simp[h1],h2'.set_ k _,fun i hi=>?_⟩
 by_cases hik:i=k
 ·subst hik
  exact⟨A1,l,c1,by simp[h1,hk],k1,k2,k3.far hbar off1,off1,fun F hF=>eH own (fun q hq hm=>by
   have:=(own.lt q (by simpa using hq)).1
   have:=h2.lt
   have:=hF q hm
   omega)⟩
 ·obtain⟨a,l',c',e1,e2,e3,e4,e5,e6⟩:=h3 i (by omega)
  exact⟨a,l',c',by rw[Array.getElem?_setIfInBounds_ne (fun e=>hik e.symm)];exact e1,e2,e3,(e4.below b).far hbar e5,e5,e6⟩
theorem Wq {w:World}{N n:Nat}{L:List (List Int)}(h:Rk w N n n L):Rws w (some ⟨N,0,none⟩) n (rowOf L):=by
 obtain⟨cs,h1,h2,h3⟩:=h
 refine .inr ⟨N,0,rfl,fun r hr=>?_⟩
 obtain⟨a,l,c,e1,e2,e3,e4,-⟩:=h3 r hr
 exact⟨a,l,c,by rw[Nat.zero_add,h2.cell,e1],e2,e3,e4⟩
theorem Ws {w W:World}{N n:Nat}{L:List (List Int)}{F:List Nat}(h:Rk w N n n L) (hF:∀ q∈F,q < N) (b:Bar F w W):Rws W (some ⟨N,0,none⟩) n (rowOf L):=by
 obtain⟨cs,h1,h2,h3⟩:=h
 have h2':=h2.bar b (fun hm=>by have:=hF N hm;omega)
 refine .inr ⟨N,0,rfl,fun r hr=>?_⟩
 obtain⟨a,l,c,e1,e2,e3,e4,-,e6⟩:=h3 r hr
 exact⟨a,l,c,by rw[Nat.zero_add,h2'.cell,e1],e2,e3,e4.far b (e6 F hF)⟩
theorem UE {w:World}{G:List Nat}{j t d n:Nat}{v:JV}(h:Cj w G j t d n v) (hn8:n≤8192) :
  Calls Tryz.prog 49 #[.pointer (some ⟨j,0,none⟩)] w (uU w v):=by
 obtain⟨N,hN⟩:∃ N,w.heap.size=N:=⟨_,rfl⟩
 have ok:=h.ok
 obtain⟨A,m,c,vr,rm,K,h1,-,-,-,-,og,-⟩:=h
 obtain⟨Ar,cr,rfl,k1,k2,rws⟩:=og.rws
 have x6:w.cell? ⟨j,6,none⟩=some (.slice Ar v.recs.length cr):=h1.cell 6
 have jl:j < N:=by rw[← hN];exact h1.lt
 have hl:v.recs.length≤4096:=by have:=ok.recs;have:=ok.pos;omega
 have hbod:ae (∀ i,(rowOf v.recs i).length≤60000):=⟨fun i=>by
  unfold rowOf
  rw[List.getD_eq_getElem?_getD]
  cases hq:v.recs[i]? with
  | none=>simp
  | some b=>exact ok.bods b (List.mem_of_getElem? hq)⟩
 obtain⟨w1,hmk,bk,bel⟩:=qC w v.recs.length (by omega)
 rw[hN] at hmk bk bel
 have HR:=ae.mk rws
 have HA:ae (Rk w1 N 0 v.recs.length v.recs):=⟨_,by simp,bk,fun i hi=>by omega⟩
 have HB:=ae.mk bel
 have x6':w1.cell? ⟨j,6,none⟩=some (.slice Ar v.recs.length cr):=(bel.cell (p:=⟨j,6,none⟩) jl).trans x6
 have POST:ae (∀ w',Rk w' N v.recs.length v.recs.length v.recs→Below N w w'→uU w v (.returned (.slice (some ⟨N,0,none⟩) v.recs.length v.recs.length)) w'):=⟨fun w' a b=>⟨_,_,rfl,Nat.le_refl _,by omega,Wq a,by rw[hN];exact b,fun F W hF hb=>Ws a (by rw[← hN];exact hF) hb⟩⟩
 have hjN:=jl
 clear og h1 rws bk bel ok jl
 go_enter Tryz.func49,Tryz.ntmps49
 go_wp2
 go_loopw [4,5,19] (fun _i _b i wr=>∃ k:Nat,k≤v.recs.length∧i=.int .i64 (k:Nat)∧ae (Rk wr N k v.recs.length v.recs)∧ae (Below N w wr)) (fun _ _ i _=>v.recs.length - (lenI i).toNat)
 case atStart=>exact⟨0,by omega,rfl,HA,HB⟩
 case round =>
  clear HA HB hmk x6 x6'
  obtain⟨k,hk,rfl,RK,BW⟩:=hrel
  by_cases hkq:k < v.recs.length
  ·have hkq':(k:Int) < (v.recs.length:Nat):=by omega
   obtain⟨b1,o1,a1,l1,c1,rfl,y1,r1⟩:=(HR.out.below (by rw[hN];exact BW.out)).row k hkq
   have CL:=ae.mk (clone_any a1 l1 c1 _ wr r1 (by have:=hbod.out k;unfold rowOf at this;have:=r1.1;omega))
   have R1:=ae.mk r1
   have hl1:=ae.mk r1.1
   clear r1
   have LT:ae (N < wr.heap.size):=⟨by obtain⟨cs,-,h2,-⟩:=RK.out;exact h2.lt⟩
   go_wp2_with fail
   refine CL.out.mono ?_
   rintro e w3 ⟨u,rfl,own,bel⟩
   obtain⟨A1,c3,rfl,⟨⟨u3,x3⟩,z3⟩,RK2⟩:=UD RK.out bel hkq hl1.out R1.out.2.1 own
   have RK3:=ae.mk RK2
   have BW3:ae (Below N w (w3.setCell ⟨N,k,none⟩ (.slice A1 l1 c3))):=⟨(BW.out.trans (bel.mono (by have:=LT.out;omega))).setCell (p:=⟨N,k,none⟩) (Nat.le_refl _) _⟩
   clear own bel RK2 RK BW CL R1
   go_wp2
   go_roundw
   case rel=>exact⟨k+1,by omega,by go_num,RK3,BW3⟩
   case measure=>simp only[lenI];omega
  ·have hkq':¬ (k:Int) < (v.recs.length:Nat):=by omega
   obtain rfl:k=v.recs.length:=by omega
   have PG:=ae.mk (POST.out _ RK.out BW.out)
   clear POST
   go_wp2
   go_ret
   exact PG.out
end Journal
end Go.Proofs.YtlkeieoecfkkeaaGreat
