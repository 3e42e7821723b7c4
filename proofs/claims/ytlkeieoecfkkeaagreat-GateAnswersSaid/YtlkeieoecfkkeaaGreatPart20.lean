/-
  Parts laid together: VaultMem VaultC1 VaultLed.
-/
import Derived.Test.YtlkeieoecfkkeaaGreatPart3
import Derived.Test.YtlkeieoecfkkeaaGreatPart16
import Derived.Test.YtlkeieoecfkkeaaGreatPart19
import Derived.Test.YtlkeieoecfkkeaaGreatPart5
set_option maxRecDepth 100000
set_option maxHeartbeats 1000000
namespace Go.Proofs.YtlkeieoecfkkeaaGreat
namespace Vault
open Go.RowKit Num Sha Purse Escrow Wire Req Disk Go.Proofs.YtlkeieoecfkkeaaGreat.Frame
theorem Bq {α:Type}{C:α→List Value}{z n:Nat}{w w':World}{A:Option Addr}{l:List α}{F:List Nat}(h:Rc C z w A n l) (o:Off A n F) (b:Bar F w w'):Rc C z w' A n l:=by
 rcases o with h0|⟨g,o,rfl,hg⟩
 ·subst h0;exact⟨h.1,.inl rfl⟩
 ·exact h.bar b (fun x hx=>.inr (fun o' e=>by injection e with e;injection e with e;exact hg (e▸hx)))
theorem cj_b:Journal.dZ Journal.Cj:=⟨Journal.Cj.lts,Journal.Cj.keep⟩
structure LM where
 A:Option Addr
 n:Nat
 c:Nat
 D:Option Addr
 m:Nat
 d:Nat
def lastC (p:TV × LM):List Value:=[.int .i64 p.1.seq,.int .i64 p.1.seen,.int .i64 p.1.a.clock,.int .i64 p.1.a.seen,.slice p.2.A p.2.n p.2.c,.slice p.2.D p.2.m p.2.d]
theorem iV (p:TV × LM):(lastC p).length=6:=rfl
structure El (w:World) (I:List Nat) (p:TV × LM):Prop where
 rp:Rp w p.2.A p.2.n p.1.a.p
 rv:Rv w p.2.D p.2.m p.1.a.v
 nc:p.2.n≤p.2.c∧p.2.c≤9223372036854775807
 md:p.2.m≤p.2.d∧p.2.d≤9223372036854775807
 inA:In p.2.A p.2.n I
 inD:In p.2.D p.2.m I
structure Vp (w:World) (x t d j y n:Nat) (HJ FL I:List Nat) (lv:Value) (l:List (TV × LM)) (m:MV):Prop where
 blk:Blk w x 120 #[.pointer (some ⟨j,0,none⟩),.pointer (some ⟨y,0,none⟩),lv,.bool m.down,.int .i64 m.served]
 sy:Journal.Sy Journal.Cj w HJ t d j n m.s m.j
 lk:Ledger.Lk w t FL y m.v.l
 row:Ow lastC 6 141 w lv l
 fst:l.map (·.1)=m.v.t
 el:∀ p∈l,El w I p
 lts:∀ k∈I,k < w.heap.size
 xJ:x∉HJ
 xL:x∉FL
 xI:x∉I
 LJ:Disj FL HJ
 IJ:Disj I HJ
 IL:Disj I FL
 vJ:∀ g∈lv.ownBlock.toList,g∉HJ
 vL:∀ g∈lv.ownBlock.toList,g∉FL
 vI:∀ g∈lv.ownBlock.toList,g∉I
 vx:∀ g∈lv.ownBlock.toList,g≠x
def vf (x:Nat) (HJ FL I:List Nat) (lv:Value):List Nat:=x :: (lv.ownBlock.toList++(HJ++(FL++I)))
def Vk (w:World) (H:List Nat) (x t d n:Nat) (m:MV):Prop:=∃ j y HJ FL I lv l,Vp w x t d j y n HJ FL I lv l m∧H=vf x HJ FL I lv
section
variable {w w' w2 : World} {H K HJ HJ' FL FL' I I' : List Nat} {x t d j y n : Nat} {lv : Value} {l : List (TV × LM)} {m : MV} {p : TV × LM}
theorem vf_mem {k:Nat}:k∈vf x HJ FL I lv ↔ k=x∨k∈lv.ownBlock.toList∨k∈HJ∨k∈FL∨k∈I:=by simp only[vf,List.mem_cons,List.mem_append]
theorem El.keep (h:El w I p) (b:Bar K w w') (q:Disj I K):El w' I p:=by
 exact⟨Bq h.rp (h.inA.off q) b,Bq h.rv (h.inD.off q) b,h.nc,h.md,h.inA,h.inD⟩
theorem El.mono (h:El w I p) (hs:∀ k∈I,k∈I'):El w I' p:=⟨h.rp,h.rv,h.nc,h.md,h.inA.mono hs,h.inD.mono hs⟩
theorem Vp.tJ (h:Vp w x t d j y n HJ FL I lv l m):t∈HJ:=by
 obtain⟨F,G,-,-,-,-,-,-,e⟩:=h.sy
 rw[e];simp
theorem Vp.all (h:Vp w x t d j y n HJ FL I lv l m):∀ k∈vf x HJ FL I lv,k < w.heap.size:=by
 intro k hk
 rcases vf_mem.1 hk with rfl|hk|hk|hk|hk
 ·exact h.blk.lt
 ·exact h.row.lt k hk
 ·exact h.sy.lts cj_b k hk
 ·exact h.lk.lts.1 k hk
 ·exact h.lts k hk
theorem Vp.keep (h:Vp w x t d j y n HJ FL I lv l m) (b:Bar K w w') (q:Disj (vf x HJ FL I lv) K):Vp w' x t d j y n HJ FL I lv l m:=by
 have hs:=h.sy.keep cj_b b (fun k hk=>q k (vf_mem.2 (.inr (.inr (.inl hk)))))
 have ht:Tab w' t:=by
  obtain⟨F,G,ht,-⟩:=hs
  exact ht
 exact⟨h.blk.bar b (q x (vf_mem.2 (.inl rfl))),hs,h.lk.keep b (fun k hk=>q k (vf_mem.2 (.inr (.inr (.inr (.inl hk)))))) ht,h.row.keep b (fun k hk=>q k (vf_mem.2 (.inr (.inl hk)))),h.fst,
  fun p hp=>(h.el p hp).keep b (fun k hk=>q k (vf_mem.2 (.inr (.inr (.inr (.inr hk)))))),fun k hk=>Nat.lt_of_lt_of_le (h.lts k hk) b.size,h.xJ,h.xL,h.xI,h.LJ,h.IJ,h.IL,h.vJ,h.vL,h.vI,h.vx⟩
theorem Vk.lts (h:Vk w H x t d n m):∀ k∈H,k < w.heap.size:=by
 obtain⟨j,y,HJ,FL,I,lv,l,h,rfl⟩:=h
 exact h.all
theorem Vk.keep (h:Vk w H x t d n m) (b:Bar K w w') (q:Disj H K):Vk w' H x t d n m:=by
 obtain⟨j,y,HJ,FL,I,lv,l,h,rfl⟩:=h
 exact⟨j,y,HJ,FL,I,lv,l,h.keep b q,rfl⟩
theorem Vk.below (h:Vk w H x t d n m) (b:Below w.heap.size w w'):Vk w' H x t d n m:=h.keep (barOf b []) (fun _ _=>by simp)
theorem Vp.len (h:Vp w x t d j y n HJ FL I lv l m):l.length=m.v.t.length:=by rw[← h.fst,List.length_map]
theorem Vp.list (h:Vp w x t d j y n HJ FL I lv l m):∃ A c,lv=.slice A m.v.t.length c∧w.cell? ⟨x,2,none⟩=some (.slice A m.v.t.length c)∧m.v.t.length≤c∧c≤9223372036854775807∧Rc lastC 6 w A m.v.t.length l:=by
 obtain⟨A,c,e,h4,h5,h6⟩:=Ow.rc iV h.row
 rw[h.len] at e h4 h6
 exact⟨A,c,e,by rw[← e];exact h.blk.cell 2,h4,h5,h6⟩
theorem Vp.c0 (h:Vp w x t d j y n HJ FL I lv l m):w.cell? ⟨x,0,none⟩=some (.pointer (some ⟨j,0,none⟩)):=h.blk.cell 0
theorem Vp.c1 (h:Vp w x t d j y n HJ FL I lv l m):w.cell? ⟨x,1,none⟩=some (.pointer (some ⟨y,0,none⟩)):=h.blk.cell 1
theorem Vp.c3 (h:Vp w x t d j y n HJ FL I lv l m):w.cell? ⟨x,3,none⟩=some (.bool m.down):=h.blk.cell 3
theorem Vp.c4 (h:Vp w x t d j y n HJ FL I lv l m):w.cell? ⟨x,4,none⟩=some (.int .i64 m.served):=h.blk.cell 4
theorem Vp.at_ (h:Vp w x t d j y n HJ FL I lv l m) {i:Nat}(hi:i < m.v.t.length):∃ e,l[i]?=some (tAt m.v i,e)∧El w I (tAt m.v i,e):=by
 have hl:i < l.length:=by rw[h.len];exact hi
 have e1:(l[i]'hl).1=tAt m.v i:=by
  unfold tAt
  rw[List.getD_eq_getElem?_getD,← h.fst,List.getElem?_map,List.getElem?_eq_getElem hl]
  rfl
 refine⟨(l[i]'hl).2,?_,?_⟩
 ·rw[List.getElem?_eq_getElem hl,← e1]
 ·rw[← e1];exact h.el _ (List.getElem_mem hl)
theorem Vp.turn (h:Vp w x t d j y n HJ FL I lv l m) {s':DS}{j':Journal.JV}(hs:Journal.Sy Journal.Cj w' HJ' t d j n s' j') (fp:Fp HJ HJ' w w'):Vp w' x t d j y n HJ' FL I lv l ⟨s',j',m.v,m.down,m.served⟩∧Fp (vf x HJ FL I lv) (vf x HJ' FL I lv) w w':=by
 have ht:Tab w' t:=by
  obtain⟨F,G,ht,-⟩:=hs
  exact ht
 have out:∀ k,k < w.heap.size→k∉HJ→k∉HJ':=fun k hk hn hm=>by
  rcases fp.2 k hm with e|e
  ·exact hn e
  ·omega
 refine⟨⟨h.blk.bar fp.1 h.xJ,hs,h.lk.keep fp.1 h.LJ ht,h.row.keep fp.1 h.vJ,h.fst,fun p hp=>(h.el p hp).keep fp.1 h.IJ,fun k hk=>Nat.lt_of_lt_of_le (h.lts k hk) fp.1.size,
  out x h.blk.lt h.xJ,h.xL,h.xI,fun k hk=>out k (h.lk.lts.1 k hk) (h.LJ k hk),fun k hk=>out k (h.lts k hk) (h.IJ k hk),h.IL,fun g hg=>out g (h.row.lt g hg) (h.vJ g hg),h.vL,h.vI,h.vx⟩,
  fp.1.mono (fun k hk=>.inl (vf_mem.2 (.inr (.inr (.inl hk))))),fun k hk=>?_⟩
 rcases vf_mem.1 hk with e|e|e|e|e
 ·exact .inl (vf_mem.2 (.inl e))
 ·exact .inl (vf_mem.2 (.inr (.inl e)))
 ·rcases fp.2 k e with e|e
  ·exact .inl (vf_mem.2 (.inr (.inr (.inl e))))
  ·exact .inr e
 ·exact .inl (vf_mem.2 (.inr (.inr (.inr (.inl e)))))
 ·exact .inl (vf_mem.2 (.inr (.inr (.inr (.inr e)))))
end
section
variable {w : World} {HJ FL I : List Nat} {x t d j y n : Nat} {lv : Value} {l : List (TV × LM)} {m : MV}
theorem Bv (h:Vp w x t d j y n HJ FL I lv l m):Calls Tryz.prog 31 #[.pointer (some ⟨x,0,none⟩)] w fun e w'=>e=.returned (.int .i64 m.served)∧w=w':=by
 have x4:=h.c4
 clear h
 go_enter Tryz.func31,Tryz.ntmps31
 go_wp2
 go_ret
 exact⟨rfl,rfl⟩
def isV (m:MV) (i:Int):Bool:=decide (0≤i∧i < (m.v.t.length:Int))
theorem Gv (i:Int) (h:Vp w x t d j y n HJ FL I lv l m):Calls Tryz.prog 57 #[.pointer (some ⟨x,0,none⟩),.int .i64 i] w fun e w'=>e=.returned (.bool (isV m i))∧w=w':=by
 obtain⟨A,c,-,x2,-,-,-⟩:=h.list
 obtain⟨k,hk⟩:∃ k,m.v.t.length=k:=⟨_,rfl⟩
 unfold isV
 rw[hk] at x2 ⊢
 clear h hk
 go_enter Tryz.func57,Tryz.ntmps57
 by_cases h0:0≤i
 ·by_cases h1:i < (k:Int)
  ·go_wp2
   go_ret
   exact⟨by simp[h0,h1],rfl⟩
  ·go_wp2
   go_ret
   exact⟨by simp[h1],rfl⟩
 ·go_wp2
  go_ret
  have e:decide (0≤i)=false:=decide_eq_false (by omega)
  exact⟨by rw[e];rfl,rfl⟩
theorem VZ {l:Ledger.LS}{c:Int}(h:tickB c=false):atV l c=l.clock:=by
 unfold atV Ledger.clockL
 rw[if_neg]
 rintro ⟨h1,-⟩
 rw[uH h1.1 h1.2] at h
 exact absurd h (by decide)
theorem V4 {l:Ledger.LS}{c:Int}(h:c≤l.clock):atV l c=l.clock:=by
 unfold atV Ledger.clockL
 rw[if_neg (fun q=>by have:=q.2;omega)]
theorem V6 {l:Ledger.LS}{c:Int}(h0:0≤c) (h1:c≤1099511627776) (h:l.clock < c):atV l c=c:=by
 unfold atV Ledger.clockL
 rw[if_pos ⟨⟨h0,h1⟩,h⟩]
theorem Um (c:Int) (h:Vp w x t d j y n HJ FL I lv l m):Calls Tryz.prog 90 #[.pointer (some ⟨x,0,none⟩),.int .i64 c] w (nP (.int .i64 (atV m.v.l c)) w):=by
 have x1:=h.c1
 have KT:=ae.mk (lM c w)
 obtain⟨b,q,G,bv,dv,hp,-⟩:=h.lk
 have KC:=ae.mk (Ledger.Ph hp)
 obtain⟨cl,hcl⟩:∃ cl,m.v.l.clock=cl:=⟨_,rfl⟩
 rw[hcl] at KC
 have HCL:=ae.mk hcl
 unfold nP at KC
 clear h hp hcl
 cases ht:tickB c with
 | false =>
  rw[VZ ht,HCL.out]
  rw[ht] at KT
  clear ht HCL
  go_enter Tryz.func90,Tryz.ntmps90
  go_wp2_with fail
  refine KT.out.mono ?_
  rintro e w1 ⟨rfl,rfl⟩
  clear KT
  go_wp2_with fail
  refine KC.out.mono ?_
  rintro e w1 ⟨rfl,bb⟩
  have B:=ae.mk bb
  clear KC bb x1
  go_wp2
  go_ret
  exact⟨rfl,B.out⟩
 | true =>
  have hc:0≤c∧c≤1099511627776:=by
   by_cases q:0≤c∧c≤1099511627776
   ·exact q
   ·rw[pY (by omega)] at ht;exact absurd ht (by decide)
  rw[ht] at KT
  clear ht
  by_cases hle:c≤cl
  ·rw[V4 (by rw[HCL.out];exact hle),HCL.out]
   clear HCL
   go_enter Tryz.func90,Tryz.ntmps90
   go_wp2_with fail
   refine KT.out.mono ?_
   rintro e w1 ⟨rfl,rfl⟩
   clear KT
   go_wp2_with fail
   refine KC.out.mono ?_
   rintro e w1 ⟨rfl,bb⟩
   have B:=ae.mk bb
   clear KC bb x1
   go_wp2
   ·go_ret
    exact⟨rfl,B.out⟩
   ·obtain rfl:c=cl:=by omega
    go_ret
    exact⟨rfl,B.out⟩
  ·rw[V6 hc.1 hc.2 (by rw[HCL.out];omega)]
   clear HCL
   go_enter Tryz.func90,Tryz.ntmps90
   go_wp2_with fail
   refine KT.out.mono ?_
   rintro e w1 ⟨rfl,rfl⟩
   clear KT
   go_wp2_with fail
   refine KC.out.mono ?_
   rintro e w1 ⟨rfl,bb⟩
   have B:=ae.mk bb
   clear KC bb x1
   go_wp2
   ·go_ret
    exact⟨rfl,B.out⟩
end
section
variable {w : World} {HJ FL I : List Nat} {x t d j y n : Nat} {lv : Value} {l : List (TV × LM)} {m : MV}
theorem Bz (h:Vp w x t d j y n HJ FL I lv l m):Calls Tryz.prog 133 #[.pointer (some ⟨x,0,none⟩)] w fun e w'=>e=.returned (.pointer (some ⟨y,0,none⟩))∧w=w':=by
 have x1:=h.c1
 clear h
 go_enter Tryz.func133,Tryz.ntmps133
 go_wp2
 go_ret
 exact⟨rfl,rfl⟩
end
end Vault
end Go.Proofs.YtlkeieoecfkkeaaGreat
