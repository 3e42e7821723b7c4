/-
  Parts laid together: EscrowCk EscrowCk2 EscrowCNew EscrowCk3 EscrowPay EscrowCRefund.
-/
import Derived.Test.YtlkeieoecfkkeaaGreatPart8
import Derived.Test.YtlkeieoecfkkeaaGreatPart14
import Derived.Test.YtlkeieoecfkkeaaGreatPart6
import Derived.Test.YtlkeieoecfkkeaaGreatPart5
set_option maxRecDepth 100000
set_option maxHeartbeats 1000000
namespace Go.Proofs.YtlkeieoecfkkeaaGreat
namespace Escrow
open Go.RowKit Sha Purse Num
theorem lZ {w:World}{t:Nat}(h:Tab w t):t < w.heap.size:=by
 rcases h with h|h<;>exact Blk.lt h
theorem eX {w w':World}{t:Nat}{l:List Nat}(h:Tab w t) (b:Bar l w w') (hl:t∉l):Tab w' t:=by
 rcases h with h|h
 ·exact .inl (Blk.bar h b hl)
 ·exact .inr (Blk.bar h b hl)
structure Pk (w:World) (t x q:Nat) (G:List Nat) (v:Value) (p:PS) (l:List EV):Prop where
 tab:Tab w t
 pc:Pc w G q p
 blk:Blk w x 228 #[.pointer (some ⟨t,0,none⟩),.pointer (some ⟨q,0,none⟩),v]
 el:El w v l
 gG:∀ g∈v.ownBlock.toList,g∉G
 gx:∀ g∈v.ownBlock.toList,g≠x
 gt:∀ g∈v.ownBlock.toList,g≠t
 xG:x∉G
 tG:t∉G
 xt:x≠t
def fk (t x:Nat) (G:List Nat) (v:Value):List Nat:=t :: x :: (v.ownBlock.toList++G)
def Ck (w:World) (F:List Nat) (x q:Nat) (b:BS):Prop:=∃ t G v,Pk w t x q G v b.p b.l∧F=fk t x G v
def Ct (t:Nat) (w:World) (F:List Nat) (x q:Nat) (b:BS):Prop:=∃ G v,Pk w t x q G v b.p b.l∧F=fk t x G v
theorem Ct.ck {t:Nat}{w:World}{F:List Nat}{x q:Nat}{b:BS}(h:Ct t w F x q b):Ck w F x q b:=⟨t,h⟩
section
variable {w w' : World} {F K G : List Nat} {t x q : Nat} {v : Value} {p : PS} {l : List EV} {b : BS}
theorem fk_mem {k:Nat}:k∈fk t x G v ↔ k=t∨k=x∨k∈v.ownBlock.toList∨k∈G:=by simp[fk]
theorem Pk.lts (h:Pk w t x q G v p l):∀ k∈fk t x G v,k < w.heap.size:=by
 intro k hk
 rcases fk_mem.1 hk with rfl|rfl|hk|hk
 ·exact lZ h.tab
 ·exact h.blk.lt
 ·exact h.el.lt k hk
 ·exact h.pc.2.lts k hk
theorem Pk.keep (h:Pk w t x q G v p l) (bb:Bar K w w') (j:Disj (fk t x G v) K):Pk w' t x q G v p l :=
 ⟨eX h.tab bb (j t (fk_mem.2 (.inl rfl))),⟨h.pc.1,h.pc.2.keep bb (fun k hk=>j k (fk_mem.2 (.inr (.inr (.inr hk)))))⟩,h.blk.bar bb (j x (fk_mem.2 (.inr (.inl rfl)))),h.el.keep bb (fun g hg=>j g (fk_mem.2 (.inr (.inr (.inl hg))))),h.gG,h.gx,h.gt,h.xG,h.tG,h.xt⟩
theorem Pk.below (h:Pk w t x q G v p l) (bb:Below w.heap.size w w'):Pk w' t x q G v p l:=h.keep (barOf bb []) (fun _ _=>by simp)
theorem bf {F:List Nat}(bb:Below w.heap.size w w'):Fp F F w w':=⟨barOf bb _,fun _ hk=>.inl hk⟩
theorem Ck.lts (h:Ck w F x q b):∀ k∈F,k < w.heap.size:=by
 obtain⟨t,G,v,h,rfl⟩:=h
 exact h.lts
theorem Ck.keep (h:Ck w F x q b) (bb:Bar K w w') (j:Disj F K):Ck w' F x q b:=by
 obtain⟨t,G,v,h,rfl⟩:=h
 exact⟨t,G,v,h.keep bb j,rfl⟩
theorem Pk.list (h:Pk w t x q G v p l):∃ A c,v=.slice A l.length c∧w.cell? ⟨x,2,none⟩=some (.slice A l.length c)∧l.length≤c∧c≤9223372036854775807:=by
 obtain⟨A,c,rfl,h4,h5⟩:=h.el.shape
 exact⟨A,c,rfl,h.blk.cell 2,h4,h5⟩
theorem Pk.c0 (h:Pk w t x q G v p l):w.cell? ⟨x,0,none⟩=some (.pointer (some ⟨t,0,none⟩)):=h.blk.cell 0
theorem Pk.c1 (h:Pk w t x q G v p l):w.cell? ⟨x,1,none⟩=some (.pointer (some ⟨q,0,none⟩)):=h.blk.cell 1
theorem Pk.c2 (h:Pk w t x q G v p l):w.cell? ⟨x,2,none⟩=some v:=h.blk.cell 2
end
section
variable {w : World} {F G : List Nat} {t x q : Nat} {v : Value} {p : PS} {l : List EV} {b : BS}
theorem Gf (i n:Int) (w:World):Calls Tryz.prog 265 #[.int .i64 i,.int .i64 n] w fun e w'=>e=.returned (.bool (decide (0≤i∧i < n)))∧w=w':=by
 by_cases h0:0≤i
 ·by_cases h1:i < n
  ·rw[decide_eq_true (⟨h0,h1⟩:0≤i∧i < n)]
   go_enter Tryz.func265,Tryz.ntmps265
   go_wp2
   go_ret
   exact⟨rfl,rfl⟩
  ·rw[decide_eq_false (fun h=>h1 h.2:¬ (0≤i∧i < n))]
   have hd:decide (i < n)=false:=decide_eq_false h1
   go_enter Tryz.func265,Tryz.ntmps265
   go_wp2
   go_ret
   exact⟨rfl,rfl⟩
 ·rw[decide_eq_false (fun h=>h0 h.1:¬ (0≤i∧i < n))]
  go_enter Tryz.func265,Tryz.ntmps265
  go_wp2
  go_ret
  exact⟨rfl,rfl⟩
theorem Gg (h:Pk w t x q G v p l):Calls Tryz.prog 227 #[.pointer (some ⟨x,0,none⟩)] w fun e w'=>e=.returned (.pointer (some ⟨q,0,none⟩))∧w=w':=by
 have x1:=h.c1
 clear h
 go_enter Tryz.func227,Tryz.ntmps227
 go_wp2
 go_ret
 exact⟨rfl,rfl⟩
theorem uM (h:Pk w t x q G v b.p b.l) (id:Int):Calls Tryz.prog 249 #[.pointer (some ⟨x,0,none⟩),.int .i64 id] w (GetPost (getB b id) w):=by
 obtain⟨A,c,hv,x1,hc,hcm⟩:=h.list
 have L:=ae.mk (Gf id b.l.length)
 have H:=ae.mk h
 clear h
 cases hE:hasE b.l id with
 | false =>
  have e:getB b id=(noE,false):=by unfold getB;rw[hE];rfl
  rw[e]
  rw[show decide (0≤id∧id < (b.l.length:Int))=false from hE] at L
  have bz:Below w.heap.size w (w.alloc (.cells #[.int .i64 0,.int .i64 0,.int .i64 0,.int .i64 0,.int .i64 0,.int .i64 0,.string ⟨#[]⟩,.string ⟨#[]⟩] 253)):=(Below.refl _ _).alloc (Nat.le_refl _) _
  have x2:=(bz.cell (p:=⟨x,2,none⟩) (World.block_lt_of_cell? _ _ x1)).trans x1
  clear e bz hE hv H
  generalize b.l.length=n at *
  go_enter Tryz.func249,Tryz.ntmps249
  go_wp2_with (go_at_call 265;refine(L.out _).mono ?_;rintro e w' ⟨rfl,rfl⟩)
  exact bodyPost_ret (v:=.tuple #[evV noE,.bool false]) (by simp[results,Tryz.results249,go_sem];rfl) rfl ⟨rfl,(Below.refl _ _).alloc (Nat.le_refl _) _⟩
 | true =>
  rw[show decide (0≤id∧id < (b.l.length:Int))=true from hE] at L
  obtain⟨k,rfl,hk⟩:=wu hE
  have e:getB b k=(atE b.l k,true):=by unfold getB;rw[if_pos hE,Int.toNat_natCast]
  rw[e]
  obtain⟨g,c',hv2,-,-,-,y0,y1,y2,y3,y4,y5,y6,y7⟩:=H.out.el.cells hk
  rw[hv] at hv2
  injection hv2 with hA _ _
  subst hA
  have gl:g < w.heap.size:=World.block_lt_of_cell? _ _ y0
  clear e hE hv H
  generalize b.l.length=n at *
  generalize atE b.l k=ev at *
  have bz:Below w.heap.size w (w.alloc (.cells #[.int .i64 0,.int .i64 0,.int .i64 0,.int .i64 0,.int .i64 0,.int .i64 0,.string ⟨#[]⟩,.string ⟨#[]⟩] 253)):=(Below.refl _ _).alloc (Nat.le_refl _) _
  have x2:=(bz.cell (p:=⟨x,2,none⟩) (World.block_lt_of_cell? _ _ x1)).trans x1
  have z0:=(bz.cell (p:=⟨g,k * 8,none⟩) (World.block_lt_of_cell? _ _ y0)).trans y0
  have z1:=(bz.cell (p:=⟨g,k * 8+1,none⟩) (World.block_lt_of_cell? _ _ y1)).trans y1
  have z2:=(bz.cell (p:=⟨g,k * 8+2,none⟩) (World.block_lt_of_cell? _ _ y2)).trans y2
  have z3:=(bz.cell (p:=⟨g,k * 8+3,none⟩) (World.block_lt_of_cell? _ _ y3)).trans y3
  have z4:=(bz.cell (p:=⟨g,k * 8+4,none⟩) (World.block_lt_of_cell? _ _ y4)).trans y4
  have z5:=(bz.cell (p:=⟨g,k * 8+5,none⟩) (World.block_lt_of_cell? _ _ y5)).trans y5
  have z6:=(bz.cell (p:=⟨g,k * 8+6,none⟩) (World.block_lt_of_cell? _ _ y6)).trans y6
  have z7:=(bz.cell (p:=⟨g,k * 8+7,none⟩) (World.block_lt_of_cell? _ _ y7)).trans y7
  clear bz y0 y1 y2 y3 y4 y5 y6 y7
  go_enter Tryz.func249,Tryz.ntmps249
  go_wp2_with (go_at_call 265;refine(L.out _).mono ?_;rintro e w' ⟨rfl,rfl⟩)
  exact bodyPost_ret (v:=.tuple #[evV ev,.bool true]) (by simp[results,Tryz.results249,go_sem];rfl) rfl ⟨rfl,(Below.refl _ _).alloc (Nat.le_refl _) _⟩
end
section
variable {w : World} {F G : List Nat} {t x q : Nat} {v : Value} {p : PS} {l : List EV} {b : BS}
theorem TZ {p:Nat}{s:PS}(hf:Tab w t) (hp:Pc w G p s) (ht:t∉G):Calls Tryz.prog 78 #[.pointer (some ⟨t,0,none⟩),.pointer (some ⟨p,0,none⟩)] w fun e w'=>∃ x,e=.returned (.pointer (some ⟨x,0,none⟩))∧Pk w' t x p G (.slice none 0 0) s []∧Below w.heap.size w w'∧w.heap.size≤x:=by
 have HF:=ae.mk hf
 have HP:=ae.mk hp
 have HT:=ae.mk ht
 clear hf hp ht
 go_enter Tryz.func78,Tryz.ntmps78
 go_wp2
 go_ret
 have b0:Below w.heap.size w (w.alloc (.cells #[.pointer (some ⟨t,0,none⟩),.pointer (some ⟨p,0,none⟩),.slice none 0 0] 228)):=(Below.refl _ _).alloc (Nat.le_refl _) _
 have tl:t < w.heap.size:=lZ HF.out
 exact⟨w.heap.size,rfl,⟨eX HF.out (barOf b0 []) (by simp),Dt HP.out (barOf b0 []) (fun _ _=>by simp),Blk.new _ _ _,El.nil _,fun g hg=>by simp[Value.ownBlock] at hg,fun g hg=>by simp[Value.ownBlock] at hg,fun g hg=>by simp[Value.ownBlock] at hg,fun hm=>Nat.lt_irrefl _ (Xx HP.out _ hm),HT.out,by omega⟩,b0,Nat.le_refl _⟩
end
section
variable {w : World} {F G : List Nat} {t x q : Nat} {v : Value} {p : PS} {l : List EV} {b : BS}
theorem xY (h:Pk w t x q G v b.p b.l):Calls Tryz.prog 229 #[.pointer (some ⟨x,0,none⟩)] w (nP (.int .i64 (openB b)) w):=by
 obtain⟨A,c,hv,x1,hc,hcm⟩:=h.list
 have H:=ae.mk h
 clear h
 obtain⟨n,hn⟩:∃ n,b.l.length=n:=⟨_,rfl⟩
 rw[hn] at x1 hc
 have HN:=ae.mk hn
 have HV:=ae.mk hv
 unfold openB
 clear hn hv
 go_enter Tryz.func229,Tryz.ntmps229
 go_wp2
 go_loopw [3,11] (fun s i wr=>∃ k z:Nat,k≤n∧z≤k∧i=.int .i64 k∧s=.int .i64 z∧ae (openN b.l k=z)∧ae (Below w.heap.size w wr)) (fun s i _=>n - (Go.RowKit.intOf i).toNat)
 case atStart=>exact⟨0,0,by omega,by omega,rfl,rfl,⟨rfl⟩,⟨Below.refl _ _⟩⟩
 case round =>
  obtain⟨k,z,hk,hz,rfl,rfl,HZ,BB⟩:=hrel
  by_cases hkn:k < n
  ·have hkn':(k:Int) < n:=by omega
   obtain⟨g,c',hv,-,-,-,y0,y1,y2,y3,y4,y5,y6,y7⟩:=(H.out.below BB.out).el.cells (k:=k) (by rw[HN.out];exact hkn)
   rw[HV.out] at hv
   injection hv with hA _ _
   subst hA
   have hs:openN b.l (k+1)=z+if (atE b.l k).state=0 then 1 else 0:=by
    show openN b.l k+_=_
    rw[HZ.out]
   by_cases h0:(atE b.l k).state=0
   ·rw[if_pos h0] at hs
    rw[h0] at y5
    have HS:=ae.mk hs
    clear hs h0
    generalize atE b.l k=ev at *
    go_wp2
    go_roundw
    case rel=>exact⟨k+1,z+1,by omega,by omega,by go_num,by go_num,HS,⟨BB.out.alloc BB.out.size _⟩⟩
    case measure=>simp[Go.RowKit.intOf];omega
   ·rw[if_neg h0] at hs
    have HS:=ae.mk hs
    have hb0:((atE b.l k).state == 0)=false:=beq_eq_false_iff_ne.2 h0
    clear hs h0
    generalize atE b.l k=ev at *
    go_wp2
    go_roundw
    case rel=>exact⟨k+1,z,by omega,by omega,by go_num,rfl,HS,⟨BB.out.alloc BB.out.size _⟩⟩
    case measure=>simp[Go.RowKit.intOf];omega
  ·have hkn':¬ (k:Int) < n:=by omega
   obtain rfl:k=n:=by omega
   go_wp2
   go_ret
   exact⟨by rw[HN.out,HZ.out];rfl,BB.out⟩
end
section
variable {w : World} {F G : List Nat} {t x q : Nat} {v : Value} {p : PS} {l : List EV} {b : BS}
theorem El.next {g c k j:Nat}{l:List EV}{e0 e1:EV}{u:Value}{w:World}(h:El w (.slice (some ⟨g,0,none⟩) (l.set k e0).length c) (l.set k e0)) (hk:k < l.length) (hj:j < 8) (hx:evC e1=(evC e0).set j u):El (w.setCell ⟨g,k * 8+j,none⟩ u) (.slice (some ⟨g,0,none⟩) (l.set k e1).length c) (l.set k e1):=by
 have h1:=h.set (k:=k) (j:=j) (u:=u) (x:=e1) (by rw[List.length_set];exact hk) hj (by rw[jV _ hk,if_pos rfl];exact hx)
 rw[List.set_set] at h1
 exact h1
end
section
variable {w : World} {F : List Nat} {t x q : Nat} {b : BS}
end
end Escrow
end Go.Proofs.YtlkeieoecfkkeaaGreat
