/-
  Parts laid together: EscrowCk EscrowCk2 EscrowCNew EscrowCk3 EscrowPay EscrowCRefund.
-/
import Derived.Test.YtidjkhpekhpffaaGreatPart10
import Derived.Test.YtidjkhpekhpffaaGreatPart14
import Derived.Test.YtidjkhpekhpffaaGreatPart8
import Derived.Test.YtidjkhpekhpffaaGreatPart7
namespace Go.Proofs.YtidjkhpekhpffaaGreat.Escrow
open Go.RowKit Go.Proofs.YtidjkhpekhpffaaGreat.Sha Go.Proofs.YtidjkhpekhpffaaGreat.Purse Go.Proofs.YtidjkhpekhpffaaGreat.Num
theorem ctab_lt {w:World}{t:Nat}(h:Tab w t):t < w.heap.size:=by
 rcases h with h|h<;>exact Blk.lt h
theorem ctab_bar {w w':World}{t:Nat}{l:List Nat}(h:Tab w t) (b:Bar l w w') (hl:t∉l):Tab w' t:=by
 rcases h with h|h
 ·exact .inl (Blk.bar h b hl)
 ·exact .inr (Blk.bar h b hl)
structure Pk (w:World) (t x q:Nat) (G:List Nat) (v:Value) (p:PS) (l:List EV):Prop where
 tab:Tab w t
 pc:Pc w G q p
 blk:Blk w x 235 #[.pointer (some ⟨t,0,none⟩),.pointer (some ⟨q,0,none⟩),v]
 el:El w v l
 gG:∀ g∈v.ownBlock.toList,g∉G
 gx:∀ g∈v.ownBlock.toList,g≠x
 gt:∀ g∈v.ownBlock.toList,g≠t
 xG:x∉G
 tG:t∉G
 xt:x≠t
def fk (t x:Nat) (G:List Nat) (v:Value):List Nat:=t :: x :: (v.ownBlock.toList++G)
def Ck (w:World) (F:List Nat) (x q:Nat) (b:BS):Prop:=∃ t G v,Pk w t x q G v b.p b.l∧F=fk t x G v
def Ct (t:Nat) (w:World) (F:List Nat) (x q:Nat) (b:BS):Prop:=∃ G v,Pk w t x q G v b.p b.l∧F=fk t x G v
theorem Ct.ck {t:Nat}{w:World}{F:List Nat}{x q:Nat}{b:BS}(h:Ct t w F x q b):Ck w F x q b:=⟨t,h⟩
section
variable {w w' : World} {F K G : List Nat} {t x q : Nat} {v : Value} {p : PS} {l : List EV} {b : BS}
theorem fk_mem {k:Nat}:k∈fk t x G v ↔ k=t∨k=x∨k∈v.ownBlock.toList∨k∈G:=by simp[fk]
theorem Pk.lts (h:Pk w t x q G v p l):∀ k∈fk t x G v,k < w.heap.size:=by
 intro k hk
 rcases fk_mem.1 hk with rfl|rfl|hk|hk
 ·exact ctab_lt h.tab
 ·exact h.blk.lt
 ·exact h.el.lt k hk
 ·exact h.pc.2.lts k hk
theorem Pk.keep (h:Pk w t x q G v p l) (bb:Bar K w w') (j:Disj (fk t x G v) K):Pk w' t x q G v p l :=
 ⟨ctab_bar h.tab bb (j t (fk_mem.2 (.inl rfl))),⟨h.pc.1,h.pc.2.keep bb (fun k hk=>j k (fk_mem.2 (.inr (.inr (.inr hk)))))⟩,h.blk.bar bb (j x (fk_mem.2 (.inr (.inl rfl)))),h.el.keep bb (fun g hg=>j g (fk_mem.2 (.inr (.inr (.inl hg))))),h.gG,h.gx,h.gt,h.xG,h.tG,h.xt⟩
theorem Pk.below (h:Pk w t x q G v p l) (bb:Below w.heap.size w w'):Pk w' t x q G v p l:=h.keep (barOf bb []) (fun _ _=>by simp)
theorem fp_below {F:List Nat}(bb:Below w.heap.size w w'):Fp F F w w':=⟨barOf bb _,fun _ hk=>.inl hk⟩
theorem Pk.purse {w2:World}{G':List Nat}{p':PS}(h:Pk w t x q G v p l) (hp:Pc w2 G' q p') (fp:Fp G G' w w2):Pk w2 t x q G' v p' l∧Fp (fk t x G v) (fk t x G' v) w w2:=by
 refine⟨⟨ctab_bar h.tab fp.1 h.tG,hp,h.blk.bar fp.1 h.xG,h.el.keep fp.1 h.gG,fun g hg hm=>?_,h.gx,h.gt,fun hm=>?_,fun hm=>?_,h.xt⟩,fp.1.mono (fun k hk=>.inl (fk_mem.2 (.inr (.inr (.inr hk))))),fun k hk=>?_⟩
 ·rcases fp.2 g hm with e|e
  ·exact h.gG g hg e
  ·have:=h.el.lt g hg;omega
 ·rcases fp.2 x hm with e|e
  ·exact h.xG e
  ·have:=h.blk.lt;omega
 ·rcases fp.2 t hm with e|e
  ·exact h.tG e
  ·have:=ctab_lt h.tab;omega
 ·rcases fk_mem.1 hk with e|e|e|e
  ·exact .inl (fk_mem.2 (.inl e))
  ·exact .inl (fk_mem.2 (.inr (.inl e)))
  ·exact .inl (fk_mem.2 (.inr (.inr (.inl e))))
  ·rcases fp.2 k e with e|e
   ·exact .inl (fk_mem.2 (.inr (.inr (.inr e))))
   ·exact .inr e
theorem Pk.tabled {w2:World}(h:Pk w t x q G v p l) (ht:Tab w2 t) (bb:Bar [t] w w2):Pk w2 t x q G v p l∧Fp (fk t x G v) (fk t x G v) w w2:=by
 refine⟨⟨ht,⟨h.pc.1,h.pc.2.keep bb (fun k hk hm=>?_)⟩,h.blk.bar bb (by simpa using h.xt),h.el.keep bb (fun g hg=>by simpa using h.gt g hg),h.gG,h.gx,h.gt,h.xG,h.tG,h.xt⟩,bb.mono (fun k hk=>.inl (fk_mem.2 (.inl (by simpa using hk)))),fun _ hk=>.inl hk⟩
 rw[List.mem_singleton] at hm
 exact h.tG (hm▸hk)
theorem Ck.lts (h:Ck w F x q b):∀ k∈F,k < w.heap.size:=by
 obtain⟨t,G,v,h,rfl⟩:=h
 exact h.lts
theorem Ck.keep (h:Ck w F x q b) (bb:Bar K w w') (j:Disj F K):Ck w' F x q b:=by
 obtain⟨t,G,v,h,rfl⟩:=h
 exact⟨t,G,v,h.keep bb j,rfl⟩
theorem Pk.list (h:Pk w t x q G v p l):∃ A c,v=.slice A l.length c∧w.cell? ⟨x,2,none⟩=some (.slice A l.length c)∧l.length≤c∧c≤9223372036854775807:=by
 obtain⟨A,c,rfl,h4,h5⟩:=h.el.shape
 exact⟨A,c,rfl,h.blk.cell 2,h4,h5⟩
theorem Pk.c0 (h:Pk w t x q G v p l):w.cell? ⟨x,0,none⟩=some (.pointer (some ⟨t,0,none⟩)):=h.blk.cell 0
theorem Pk.c1 (h:Pk w t x q G v p l):w.cell? ⟨x,1,none⟩=some (.pointer (some ⟨q,0,none⟩)):=h.blk.cell 1
theorem Pk.c2 (h:Pk w t x q G v p l):w.cell? ⟨x,2,none⟩=some v:=h.blk.cell 2
end
section
variable {w : World} {F G : List Nat} {t x q : Nat} {v : Value} {p : PS} {l : List EV} {b : BS}
set_option maxHeartbeats 400000 in
theorem cbelow_any (i n:Int) (w:World):Calls Tryz.prog 275 #[.int .i64 i,.int .i64 n] w fun e w'=>e=.returned (.bool (decide (0≤i∧i < n)))∧w=w':=by
 by_cases h0:0≤i
 ·by_cases h1:i < n
  ·rw[decide_eq_true (⟨h0,h1⟩:0≤i∧i < n)]
   go_enter Tryz.func275,Tryz.ntmps275
   go_wp2
   go_ret
   exact⟨rfl,rfl⟩
  ·rw[decide_eq_false (fun h=>h1 h.2:¬ (0≤i∧i < n))]
   have hd:decide (i < n)=false:=decide_eq_false h1
   go_enter Tryz.func275,Tryz.ntmps275
   go_wp2
   go_ret
   exact⟨rfl,rfl⟩
 ·rw[decide_eq_false (fun h=>h0 h.1:¬ (0≤i∧i < n))]
  go_enter Tryz.func275,Tryz.ntmps275
  go_wp2
  go_ret
  exact⟨rfl,rfl⟩
theorem cparty_any (h:Pk w t x q G v p l) (i:Int):Calls Tryz.prog 260 #[.pointer (some ⟨x,0,none⟩),.int .i64 i] w fun e w'=>e=.returned (.bool (isP p i))∧w=w':=by
 have x1:=h.c1
 have N:=Kept.mk (parties_any h.pc)
 have L:=Kept.mk (cbelow_any i p.np)
 rw[show decide (0≤i∧i < (p.np:Int))=isP p i from rfl] at L
 clear h
 generalize isP p i=r at *
 generalize p.np=np at *
 go_enter Tryz.func260,Tryz.ntmps260
 go_wp2_with (first|(go_at_call 178;refine N.out.mono ?_;rintro e w' ⟨rfl,rfl⟩)|(go_at_call 275;refine(L.out _).mono ?_;rintro e w' ⟨rfl,rfl⟩))
 go_ret
 exact⟨rfl,rfl⟩
theorem casset_any (h:Pk w t x q G v p l) (i:Int):Calls Tryz.prog 261 #[.pointer (some ⟨x,0,none⟩),.int .i64 i] w fun e w'=>e=.returned (.bool (isA p i))∧w=w':=by
 have x1:=h.c1
 have N:=Kept.mk (assets_any h.pc)
 have L:=Kept.mk (cbelow_any i p.na)
 rw[show decide (0≤i∧i < (p.na:Int))=isA p i from rfl] at L
 clear h
 generalize isA p i=r at *
 generalize p.na=np at *
 go_enter Tryz.func261,Tryz.ntmps261
 go_wp2_with (first|(go_at_call 179;refine N.out.mono ?_;rintro e w' ⟨rfl,rfl⟩)|(go_at_call 275;refine(L.out _).mono ?_;rintro e w' ⟨rfl,rfl⟩))
 go_ret
 exact⟨rfl,rfl⟩
theorem cpurse_any (h:Pk w t x q G v p l):Calls Tryz.prog 89 #[.pointer (some ⟨x,0,none⟩)] w fun e w'=>e=.returned (.pointer (some ⟨q,0,none⟩))∧w=w':=by
 have x1:=h.c1
 clear h
 go_enter Tryz.func89,Tryz.ntmps89
 go_wp2
 go_ret
 exact⟨rfl,rfl⟩
set_option maxRecDepth 100000 in
set_option maxHeartbeats 1000000 in
theorem cget_any (h:Pk w t x q G v b.p b.l) (id:Int):Calls Tryz.prog 264 #[.pointer (some ⟨x,0,none⟩),.int .i64 id] w (GetPost (getB b id) w):=by
 obtain⟨A,c,hv,x1,hc,hcm⟩:=h.list
 have L:=Kept.mk (cbelow_any id b.l.length)
 have H:=Kept.mk h
 clear h
 cases hE:hasE b.l id with
 | false =>
  have e:getB b id=(noE,false):=by unfold getB;rw[hE];rfl
  rw[e]
  rw[show decide (0≤id∧id < (b.l.length:Int))=false from hE] at L
  have bz:Below w.heap.size w (w.alloc (.cells #[.int .i64 0,.int .i64 0,.int .i64 0,.int .i64 0,.int .i64 0,.int .i64 0,.string ⟨#[]⟩,.string ⟨#[]⟩] 261)):=(Below.refl _ _).alloc (Nat.le_refl _) _
  have x2:=(bz.cell (p:=⟨x,2,none⟩) (World.block_lt_of_cell? _ _ x1)).trans x1
  clear e bz hE hv H
  generalize b.l.length=n at *
  go_enter Tryz.func264,Tryz.ntmps264
  go_wp2_with (go_at_call 275;refine(L.out _).mono ?_;rintro e w' ⟨rfl,rfl⟩)
  exact bodyPost_ret (v:=.tuple #[evV noE,.bool false]) (by simp[results,Tryz.results264,go_sem];rfl) rfl ⟨rfl,(Below.refl _ _).alloc (Nat.le_refl _) _⟩
 | true =>
  rw[show decide (0≤id∧id < (b.l.length:Int))=true from hE] at L
  obtain⟨k,rfl,hk⟩:=hasE_nat hE
  have e:getB b k=(atE b.l k,true):=by unfold getB;rw[if_pos hE,Int.toNat_natCast]
  rw[e]
  obtain⟨g,c',hv2,-,-,-,y0,y1,y2,y3,y4,y5,y6,y7⟩:=H.out.el.cells hk
  rw[hv] at hv2
  injection hv2 with hA _ _
  subst hA
  have gl:g < w.heap.size:=World.block_lt_of_cell? _ _ y0
  clear e hE hv H
  generalize b.l.length=n at *
  generalize atE b.l k=ev at *
  have bz:Below w.heap.size w (w.alloc (.cells #[.int .i64 0,.int .i64 0,.int .i64 0,.int .i64 0,.int .i64 0,.int .i64 0,.string ⟨#[]⟩,.string ⟨#[]⟩] 261)):=(Below.refl _ _).alloc (Nat.le_refl _) _
  have x2:=(bz.cell (p:=⟨x,2,none⟩) (World.block_lt_of_cell? _ _ x1)).trans x1
  have z0:=(bz.cell (p:=⟨g,k * 8,none⟩) (World.block_lt_of_cell? _ _ y0)).trans y0
  have z1:=(bz.cell (p:=⟨g,k * 8+1,none⟩) (World.block_lt_of_cell? _ _ y1)).trans y1
  have z2:=(bz.cell (p:=⟨g,k * 8+2,none⟩) (World.block_lt_of_cell? _ _ y2)).trans y2
  have z3:=(bz.cell (p:=⟨g,k * 8+3,none⟩) (World.block_lt_of_cell? _ _ y3)).trans y3
  have z4:=(bz.cell (p:=⟨g,k * 8+4,none⟩) (World.block_lt_of_cell? _ _ y4)).trans y4
  have z5:=(bz.cell (p:=⟨g,k * 8+5,none⟩) (World.block_lt_of_cell? _ _ y5)).trans y5
  have z6:=(bz.cell (p:=⟨g,k * 8+6,none⟩) (World.block_lt_of_cell? _ _ y6)).trans y6
  have z7:=(bz.cell (p:=⟨g,k * 8+7,none⟩) (World.block_lt_of_cell? _ _ y7)).trans y7
  clear bz y0 y1 y2 y3 y4 y5 y6 y7
  go_enter Tryz.func264,Tryz.ntmps264
  go_wp2_with (go_at_call 275;refine(L.out _).mono ?_;rintro e w' ⟨rfl,rfl⟩)
  exact bodyPost_ret (v:=.tuple #[evV ev,.bool true]) (by simp[results,Tryz.results264,go_sem];rfl) rfl ⟨rfl,(Below.refl _ _).alloc (Nat.le_refl _) _⟩
end
section
variable {w : World} {F G : List Nat} {t x q : Nat} {v : Value} {p : PS} {l : List EV} {b : BS}
theorem cnew_is {p:Nat}{s:PS}(hf:Tab w t) (hp:Pc w G p s) (ht:t∉G):Calls Tryz.prog 92 #[.pointer (some ⟨t,0,none⟩),.pointer (some ⟨p,0,none⟩)] w fun e w'=>∃ x,e=.returned (.pointer (some ⟨x,0,none⟩))∧Pk w' t x p G (.slice none 0 0) s []∧Below w.heap.size w w'∧w.heap.size≤x:=by
 have HF:=Kept.mk hf
 have HP:=Kept.mk hp
 have HT:=Kept.mk ht
 clear hf hp ht
 go_enter Tryz.func92,Tryz.ntmps92
 go_wp2
 go_ret
 have b0:Below w.heap.size w (w.alloc (.cells #[.pointer (some ⟨t,0,none⟩),.pointer (some ⟨p,0,none⟩),.slice none 0 0] 235)):=(Below.refl _ _).alloc (Nat.le_refl _) _
 have tl:t < w.heap.size:=ctab_lt HF.out
 exact⟨w.heap.size,rfl,⟨ctab_bar HF.out (barOf b0 []) (by simp),pc_keep HP.out (barOf b0 []) (fun _ _=>by simp),Blk.new _ _ _,El.nil _,fun g hg=>by simp[Value.ownBlock] at hg,fun g hg=>by simp[Value.ownBlock] at hg,fun g hg=>by simp[Value.ownBlock] at hg,fun hm=>Nat.lt_irrefl _ (pc_lts HP.out _ hm),HT.out,by omega⟩,b0,Nat.le_refl _⟩
end
section
variable {w : World} {F G : List Nat} {t x q : Nat} {v : Value} {p : PS} {l : List EV} {b : BS}
set_option maxRecDepth 100000 in
set_option maxHeartbeats 1000000 in
theorem copen_any (h:Pk w t x q G v b.p b.l):Calls Tryz.prog 235 #[.pointer (some ⟨x,0,none⟩)] w (TellB (.int .i64 (openB b)) w):=by
 obtain⟨A,c,hv,x1,hc,hcm⟩:=h.list
 have H:=Kept.mk h
 clear h
 obtain⟨n,hn⟩:∃ n,b.l.length=n:=⟨_,rfl⟩
 rw[hn] at x1 hc
 have HN:=Kept.mk hn
 have HV:=Kept.mk hv
 unfold openB
 clear hn hv
 go_enter Tryz.func235,Tryz.ntmps235
 go_wp2
 go_loopw [3,11] (fun s i wr=>∃ k z:Nat,k≤n∧z≤k∧i=.int .i64 k∧s=.int .i64 z∧Kept (openN b.l k=z)∧Kept (Below w.heap.size w wr)) (fun s i _=>n - (Go.RowKit.intOf i).toNat)
 case atStart=>exact⟨0,0,by omega,by omega,rfl,rfl,⟨rfl⟩,⟨Below.refl _ _⟩⟩
 case round =>
  obtain⟨k,z,hk,hz,rfl,rfl,HZ,BB⟩:=hrel
  by_cases hkn:k < n
  ·have hkn':(k:Int) < n:=by omega
   obtain⟨g,c',hv,-,-,-,y0,y1,y2,y3,y4,y5,y6,y7⟩:=(H.out.below BB.out).el.cells (k:=k) (by rw[HN.out];exact hkn)
   rw[HV.out] at hv
   injection hv with hA _ _
   subst hA
   have hs:openN b.l (k+1)=z+if (atE b.l k).state=0 then 1 else 0:=by
    show openN b.l k+_=_
    rw[HZ.out]
   by_cases h0:(atE b.l k).state=0
   ·rw[if_pos h0] at hs
    rw[h0] at y5
    have HS:=Kept.mk hs
    clear hs h0
    generalize atE b.l k=ev at *
    go_wp2
    go_roundw
    case rel=>exact⟨k+1,z+1,by omega,by omega,by go_num,by go_num,HS,⟨BB.out.alloc BB.out.size _⟩⟩
    case measure=>simp[Go.RowKit.intOf];omega
   ·rw[if_neg h0] at hs
    have HS:=Kept.mk hs
    have hb0:((atE b.l k).state == 0)=false:=beq_eq_false_iff_ne.2 h0
    clear hs h0
    generalize atE b.l k=ev at *
    go_wp2
    go_roundw
    case rel=>exact⟨k+1,z,by omega,by omega,by go_num,rfl,HS,⟨BB.out.alloc BB.out.size _⟩⟩
    case measure=>simp[Go.RowKit.intOf];omega
  ·have hkn':¬ (k:Int) < n:=by omega
   obtain rfl:k=n:=by omega
   go_wp2
   go_ret
   exact⟨by rw[HN.out,HZ.out];rfl,BB.out⟩
end
def payB (b:BS) (who:Int) (k:Nat) (e:EV):Int × BS :=
 if (giveP b.p who e.asset e.amount).1≠0 then ((giveP b.p who e.asset e.amount).1,b) else (0,⟨(giveP b.p who e.asset e.amount).2,b.l.set k e⟩)
section
variable {w : World} {F G : List Nat} {t x q : Nat} {v : Value} {p : PS} {l : List EV} {b : BS}
def set8 (w:World) (g k:Nat) (e:EV):World:=(((((((w.setCell ⟨g,k * 8+0,none⟩ (.int .i64 e.src)).setCell ⟨g,k * 8+1,none⟩ (.int .i64 e.dst)).setCell ⟨g,k * 8+2,none⟩ (.int .i64 e.asset)).setCell ⟨g,k * 8+3,none⟩ (.int .i64 e.amount)).setCell ⟨g,k * 8+4,none⟩ (.int .i64 e.due)).setCell ⟨g,k * 8+5,none⟩ (.int .i64 e.state)).setCell ⟨g,k * 8+6,none⟩ (.string (strOfNums e.hash))).setCell ⟨g,k * 8+7,none⟩ (.string (strOfNums e.secret))
theorem El.next {g c k j:Nat}{l:List EV}{e0 e1:EV}{u:Value}{w:World}(h:El w (.slice (some ⟨g,0,none⟩) (l.set k e0).length c) (l.set k e0)) (hk:k < l.length) (hj:j < 8) (hx:evC e1=(evC e0).set j u):El (w.setCell ⟨g,k * 8+j,none⟩ u) (.slice (some ⟨g,0,none⟩) (l.set k e1).length c) (l.set k e1):=by
 have h1:=h.set (k:=k) (j:=j) (u:=u) (x:=e1) (by rw[List.length_set];exact hk) hj (by rw[atE_set _ hk,if_pos rfl];exact hx)
 rw[List.set_set] at h1
 exact h1
theorem El.set8 {g c k:Nat}(h:El w (.slice (some ⟨g,0,none⟩) l.length c) l) (hk:k < l.length) (e:EV):El (set8 w g k e) (.slice (some ⟨g,0,none⟩) (l.set k e).length c) (l.set k e):=by
 obtain⟨es,ed,ea,en,eu,et,eh,ec⟩:=e
 have h0:=h.set (k:=k) (j:=0) (u:=.int .i64 es) (x:={ atE l k with src:=es }) hk (by decide) rfl
 have h1:=h0.next (j:=1) (u:=.int .i64 ed) (e1:={ atE l k with src:=es,dst:=ed }) hk (by decide) rfl
 have h2:=h1.next (j:=2) (u:=.int .i64 ea) (e1:={ atE l k with src:=es,dst:=ed,asset:=ea }) hk (by decide) rfl
 have h3:=h2.next (j:=3) (u:=.int .i64 en) (e1:={ atE l k with src:=es,dst:=ed,asset:=ea,amount:=en }) hk (by decide) rfl
 have h4:=h3.next (j:=4) (u:=.int .i64 eu) (e1:={ atE l k with src:=es,dst:=ed,asset:=ea,amount:=en,due:=eu }) hk (by decide) rfl
 have h5:=h4.next (j:=5) (u:=.int .i64 et) (e1:={ atE l k with src:=es,dst:=ed,asset:=ea,amount:=en,due:=eu,state:=et }) hk (by decide) rfl
 have h6:=h5.next (j:=6) (u:=.string (strOfNums eh)) (e1:={ atE l k with src:=es,dst:=ed,asset:=ea,amount:=en,due:=eu,state:=et,hash:=eh }) hk (by decide) rfl
 exact h6.next (j:=7) (u:=.string (strOfNums ec)) (e1:=⟨es,ed,ea,en,eu,et,eh,ec⟩) hk (by decide) rfl
theorem Pk.set8 {g c k:Nat}(h:Pk w t x q G (.slice (some ⟨g,0,none⟩) l.length c) p l) (hk:k < l.length) (e:EV) :
  Pk (set8 w g k e) t x q G (.slice (some ⟨g,0,none⟩) (l.set k e).length c) p (l.set k e)∧Fp (fk t x G (.slice (some ⟨g,0,none⟩) l.length c)) (fk t x G (.slice (some ⟨g,0,none⟩) (l.set k e).length c)) w (set8 w g k e):=by
 have b:Bar [g] w (Escrow.set8 w g k e):=((((((((Bar.refl _ w).setCell (by simp) _).setCell (by simp) _).setCell (by simp) _).setCell (by simp) _).setCell (by simp) _).setCell (by simp) _).setCell (by simp) _).setCell (by simp) _
 have gG:=h.gG g (Option.mem_toList.2 rfl)
 have gx:=h.gx g (Option.mem_toList.2 rfl)
 have gt:=h.gt g (Option.mem_toList.2 rfl)
 refine⟨⟨ctab_bar h.tab b (by simpa using fun e=>gt e.symm),⟨h.pc.1,h.pc.2.keep b (fun z hz hm=>by rw[List.mem_singleton] at hm;exact gG (hm▸hz))⟩,?_,h.el.set8 hk e,h.gG,h.gx,h.gt,h.xG,h.tG,h.xt⟩,b.mono (fun z hz=>.inl (fk_mem.2 (.inr (.inr (.inl (by rw[List.mem_singleton] at hz;subst hz;exact Option.mem_toList.2 rfl)))))),fun _ hk=>.inl hk⟩
 rw[List.length_set]
 exact h.blk.bar b (by simpa using fun e=>gx e.symm)
set_option maxRecDepth 100000 in
set_option maxHeartbeats 1000000 in
theorem pay_any (h:Pk w t x q G v b.p b.l) (who:Int) (k:Nat) (hk:k < b.l.length) (e:EV):Calls Tryz.prog 266 #[.pointer (some ⟨x,0,none⟩),.int .i64 who,.int .i64 k,evV e] w (BookPost (fun w' F' b'=>Ct t w' F' x q b') w (fk t x G v) (payB b who k e)):=by
 obtain⟨es,ed,ea,en,eu,et,eh,ec⟩:=e
 have b0:Below w.heap.size w (w.alloc (.cells #[.int .i64 es,.int .i64 ed,.int .i64 ea,.int .i64 en,.int .i64 eu,.int .i64 et,.string (strOfNums eh),.string (strOfNums ec)] 261)):=(Below.refl _ _).alloc (Nat.le_refl _) _
 have nb:Blk (w.alloc (.cells #[.int .i64 es,.int .i64 ed,.int .i64 ea,.int .i64 en,.int .i64 eu,.int .i64 et,.string (strOfNums eh),.string (strOfNums ec)] 261)) w.heap.size 261 #[.int .i64 es,.int .i64 ed,.int .i64 ea,.int .i64 en,.int .i64 eu,.int .i64 et,.string (strOfNums eh),.string (strOfNums ec)]:=Blk.new _ _ _
 obtain⟨te,ts,hT⟩:∃ te ts,giveP b.p who ea en=(te,ts):=⟨_,_,rfl⟩
 have HT:=Kept.mk hT
 have P0:=Kept.mk h
 unfold evV
 dsimp only
 go_enter Tryz.func266,Tryz.ntmps266
 go_upto_region 1 with fail
 obtain⟨N,hN⟩:∃ N,w.heap.size=N:=⟨_,rfl⟩
 rw[hN] at nb b0
 rw[hN]
 have NG:Kept (N∉G):=⟨fun hm=>by have:=h.pc.2.lts _ hm;omega⟩
 have P1:Kept (Pk (w.alloc (.cells #[.int .i64 es,.int .i64 ed,.int .i64 ea,.int .i64 en,.int .i64 eu,.int .i64 et,.string (strOfNums eh),.string (strOfNums ec)] 261)).drew t x q G v b.p b.l):=⟨(h.keep (barOf (hN▸b0) []) (fun _ _=>by simp)).below (Below.refl _ _).drew⟩
 have FP1:Kept (Fp (fk t x G v) (fk t x G v) w (w.alloc (.cells #[.int .i64 es,.int .i64 ed,.int .i64 ea,.int .i64 en,.int .i64 eu,.int .i64 et,.string (strOfNums eh),.string (strOfNums ec)] 261)).drew):=⟨barOf (hN▸b0.drew) _,fun _ hk=>.inl hk⟩
 have NB:=Kept.mk (nb.below (Below.refl _ _).drew nb.lt)
 have GV:=Kept.mk (give_any who ea en P1.out.pc)
 rw[hT] at GV
 have x1:=P1.out.c1
 clear h b0 nb hN
 generalize hW:(w.alloc (.cells #[.int .i64 es,.int .i64 ed,.int .i64 ea,.int .i64 en,.int .i64 eu,.int .i64 et,.string (strOfNums eh),.string (strOfNums ec)] 261))=w1 at *
 have n2:w1.cell? ⟨N,2,none⟩=some (.int .i64 ea):=NB.out.cell 2
 have n3:w1.cell? ⟨N,3,none⟩=some (.int .i64 en):=NB.out.cell 3
 have x1':w1.cell? ⟨x,1,none⟩=some (.pointer (some ⟨q,0,none⟩)):=x1
 refine wp_region_still_tail 9 (by kernel_rfl) (by kernel_rfl) ?_
 simp only[List.take_succ_cons,List.take_zero,List.drop_succ_cons,List.drop_zero]
 repeat still_step
 refine wpStill_nil ?_
 change wpList _ _ _ _ _ w1.drew
 go_wp2_with fail
 refine GV.out.mono ?_
 rintro e w2 ⟨rfl,G',hp,fp⟩
 have PP:=P1.out.purse hp fp
 have P2:=Kept.mk PP.1
 have F2:=Kept.mk (FP1.out.trans PP.2)
 have N2:=Kept.mk (NB.out.bar fp.1 NG.out)
 clear PP hp fp GV P1 FP1 NB n2 n3 x1 x1'
 by_cases h0:te=0
 ·subst h0
  have RF:Kept (payB b who k ⟨es,ed,ea,en,eu,et,eh,ec⟩=(0,⟨ts,b.l.set k ⟨es,ed,ea,en,eu,et,eh,ec⟩⟩)):=⟨by unfold payB;rw[HT.out,if_neg (by simp)]⟩
  obtain⟨g,c,hv,hc,-,fz,y0,y1,y2,y3,y4,y5,y6,y7⟩:=P2.out.el.cells hk
  subst hv
  have x2:=P2.out.c2
  have n0:=N2.out.cell 0
  have n1:=N2.out.cell 1
  have n2:=N2.out.cell 2
  have n3:=N2.out.cell 3
  have n4:=N2.out.cell 4
  have n5:=N2.out.cell 5
  have n6:=N2.out.cell 6
  have n7:=N2.out.cell 7
  go_upto_region 4 with fail
  refine wp_region_still_tail 7 (by kernel_rfl) (by kernel_rfl) ?_
  simp only[List.take_succ_cons,List.take_zero,List.drop_succ_cons,List.drop_zero]
  repeat still_step
  refine wpStill_nil ?_
  change wpList _ _ _ _ _ w2.drew
  have f0:=fz (k * 8)
  have f1:=fz (k * 8+1)
  have f2:=fz (k * 8+2)
  have f3:=fz (k * 8+3)
  have f4:=fz (k * 8+4)
  have f5:=fz (k * 8+5)
  have f6:=fz (k * 8+6)
  have f7:=fz (k * 8+7)
  clear n0 n1 n2 n3 n4 n5 n6 n7 fz x2
  have ST:=Kept.mk (P2.out.set8 hk ⟨es,ed,ea,en,eu,et,eh,ec⟩)
  go_wp2
  go_ret
  rw[RF.out]
  exact⟨rfl,_,⟨G',_,ST.out.1.below (Below.refl _ _).drew,rfl⟩,F2.out.trans ⟨ST.out.2.1.drew,ST.out.2.2⟩⟩
 ·have RF:Kept (payB b who k ⟨es,ed,ea,en,eu,et,eh,ec⟩=(te,b)):=⟨by unfold payB;rw[HT.out,if_pos h0]⟩
  obtain rfl:ts=b.p:=give_same HT.out h0
  have h0':(te == 0)=false:=beq_eq_false_iff_ne.2 h0
  go_wp2
  go_ret
  rw[RF.out]
  exact⟨rfl,_,⟨G',v,P2.out,rfl⟩,F2.out⟩
end
section
variable {w : World} {F : List Nat} {t x q : Nat} {b : BS}
set_option maxRecDepth 100000 in
set_option maxHeartbeats 2000000 in
theorem crefund_any (h:Ct t w F x q b) (who id clock:Int):Calls Tryz.prog 239 #[.pointer (some ⟨x,0,none⟩),.int .i64 who,.int .i64 id,.int .i64 clock] w (BookPost (fun w' F' b'=>Ct t w' F' x q b') w F (refundB b who id clock)):=by
 obtain⟨G,v,P,rfl⟩:=h
 have GT:=Kept.mk (cget_any P id)
 have P0:=Kept.mk P
 have TI:=Kept.mk (fun w=>tick_any clock w)
 clear P
 cases hE:hasE b.l id with
 | false =>
  rw[show getB b id=(noE,false) from by unfold getB;rw[hE];rfl] at GT
  have RF:Kept (refundB b who id clock=(8,b)):=⟨by unfold refundB;rw[if_pos hE]⟩
  go_enter Tryz.func239,Tryz.ntmps239
  go_wp2_with fail
  refine GT.out.mono ?_
  rintro e w1 ⟨hx,b1⟩
  replace hx:e=.returned (.tuple #[.agg #[.int .i64 0,.int .i64 0,.int .i64 0,.int .i64 0,.int .i64 0,.int .i64 0,.string ⟨#[]⟩,.string ⟨#[]⟩],.bool false]):=hx
  subst hx
  have B1:=Kept.mk b1
  clear b1 GT
  go_wp2_with (go_at_call 114;(with_reducible refine(TI.out _).mono ?_);rintro e w' ⟨rfl,rfl⟩)
  go_ret
  rw[RF.out]
  have b2:=B1.out.alloc B1.out.size (.cells #[.int .i64 0,.int .i64 0,.int .i64 0,.int .i64 0,.int .i64 0,.int .i64 0,.string ⟨#[]⟩,.string ⟨#[]⟩] 261)
  exact⟨rfl,_,⟨G,v,P0.out.below b2,rfl⟩,fp_below b2⟩
 | true =>
  rw[show getB b id=(atE b.l id.toNat,true) from by unfold getB;rw[if_pos hE]] at GT
  obtain⟨k,rfl,hk⟩:=hasE_nat hE
  rw[Int.toNat_natCast] at GT
  have RS:=Kept.mk (refund_some (who:=who) (clock:=clock) hk)
  obtain⟨es,ed,ea,en,eu,et,eh,ec,hev⟩:∃ es ed ea en eu et eh ec,atE b.l k=⟨es,ed,ea,en,eu,et,eh,ec⟩:=⟨_,_,_,_,_,_,_,_,rfl⟩
  rw[hev] at GT RS
  dsimp only at RS
  have HK:=Kept.mk hk
  clear hE hev hk
  by_cases hw:es=who
  ·subst hw
   by_cases hs:et=0
   ·subst hs
    by_cases hd:clock < eu
    ·have RF:Kept (refundB b es k clock=(11,b)):=⟨by rw[RS.out,if_neg (fun e=>e rfl),if_neg (fun e=>e rfl),if_pos (.inl hd)]⟩
     go_enter Tryz.func239,Tryz.ntmps239
     go_wp2_with fail
     refine GT.out.mono ?_
     rintro e w1 ⟨hx,b1⟩
     replace hx:e=.returned (.tuple #[.agg #[.int .i64 es,.int .i64 ed,.int .i64 ea,.int .i64 en,.int .i64 eu,.int .i64 0,.string (strOfNums eh),.string (strOfNums ec)],.bool true]):=hx
     subst hx
     have B1:=Kept.mk b1
     clear b1 GT
     go_wp2_with (go_at_call 114;(with_reducible refine(TI.out _).mono ?_);rintro e w' ⟨rfl,rfl⟩)
     go_ret
     rw[RF.out]
     have b2:=B1.out.alloc B1.out.size (.cells #[.int .i64 es,.int .i64 ed,.int .i64 ea,.int .i64 en,.int .i64 eu,.int .i64 0,.string (strOfNums eh),.string (strOfNums ec)] 261)
     exact⟨rfl,_,⟨G,v,P0.out.below b2,rfl⟩,fp_below b2⟩
    ·cases ht:tickB clock with
     | false =>
      rw[ht] at TI
      have RF:Kept (refundB b es k clock=(11,b)):=⟨by rw[RS.out,if_neg (fun e=>e rfl),if_neg (fun e=>e rfl),if_pos (.inr ht)]⟩
      go_enter Tryz.func239,Tryz.ntmps239
      go_wp2_with fail
      refine GT.out.mono ?_
      rintro e w1 ⟨hx,b1⟩
      replace hx:e=.returned (.tuple #[.agg #[.int .i64 es,.int .i64 ed,.int .i64 ea,.int .i64 en,.int .i64 eu,.int .i64 0,.string (strOfNums eh),.string (strOfNums ec)],.bool true]):=hx
      subst hx
      have B1:=Kept.mk b1
      clear b1 GT
      go_wp2_with (go_at_call 114;(with_reducible refine(TI.out _).mono ?_);rintro e w' ⟨rfl,rfl⟩)
      go_ret
      rw[RF.out]
      have b2:=B1.out.alloc B1.out.size (.cells #[.int .i64 es,.int .i64 ed,.int .i64 ea,.int .i64 en,.int .i64 eu,.int .i64 0,.string (strOfNums eh),.string (strOfNums ec)] 261)
      exact⟨rfl,_,⟨G,v,P0.out.below b2,rfl⟩,fp_below b2⟩
     | true =>
      rw[ht] at TI
      have RF:Kept (refundB b es k clock=payB b es k ⟨es,ed,ea,en,eu,2,eh,ec⟩):=⟨by rw[RS.out,if_neg (fun e=>e rfl),if_neg (fun e=>e rfl),if_neg (fun e=>e.elim hd (by rw[ht];simp))];rfl⟩
      rw[RF.out]
      clear ht RS RF
      go_enter Tryz.func239,Tryz.ntmps239
      go_wp2_with fail
      refine GT.out.mono ?_
      rintro e w1 ⟨hx,b1⟩
      replace hx:e=.returned (.tuple #[.agg #[.int .i64 es,.int .i64 ed,.int .i64 ea,.int .i64 en,.int .i64 eu,.int .i64 0,.string (strOfNums eh),.string (strOfNums ec)],.bool true]):=hx
      subst hx
      have B1:=Kept.mk b1
      clear b1 GT
      go_upto_region 10 with(go_at_call 114;(with_reducible refine(TI.out _).mono ?_);rintro e w' ⟨rfl,rfl⟩)
      have nb:Blk (w1.alloc (.cells #[.int .i64 es,.int .i64 ed,.int .i64 ea,.int .i64 en,.int .i64 eu,.int .i64 0,.string (strOfNums eh),.string (strOfNums ec)] 261)) w1.heap.size 261 #[.int .i64 es,.int .i64 ed,.int .i64 ea,.int .i64 en,.int .i64 eu,.int .i64 0,.string (strOfNums eh),.string (strOfNums ec)]:=Blk.new _ _ _
      have B2:=Kept.mk (B1.out.alloc B1.out.size (.cells #[.int .i64 es,.int .i64 ed,.int .i64 ea,.int .i64 en,.int .i64 eu,.int .i64 0,.string (strOfNums eh),.string (strOfNums ec)] 261))
      have B1s:=B1.out.size
      obtain⟨N,hN⟩:∃ N,w1.heap.size=N:=⟨_,rfl⟩
      rw[hN] at nb ⊢
      have NB:=Kept.mk nb
      clear nb B1
      generalize (w1.alloc (.cells #[.int .i64 es,.int .i64 ed,.int .i64 ea,.int .i64 en,.int .i64 eu,.int .i64 0,.string (strOfNums eh),.string (strOfNums ec)] 261))=w2 at *
      have n5:w2.cell? ⟨N,5,none⟩=some (.int .i64 0):=NB.out.cell 5
      have f5:=NB.out.frozen 5
      go_upto_region 11 with fail
      have nb:Blk (w2.setCell ⟨N,5,none⟩ (.int .i64 2)) N 261 #[.int .i64 es,.int .i64 ed,.int .i64 ea,.int .i64 en,.int .i64 eu,.int .i64 2,.string (strOfNums eh),.string (strOfNums ec)]:=NB.out.set_ 5 (.int .i64 2)
      have b3:Below w.heap.size w (w2.setCell ⟨N,5,none⟩ (.int .i64 2)):=B2.out.setCell (by rw[← hN];exact B1s) _
      clear n5 f5 NB B2 hN B1s
      generalize (w2.setCell ⟨N,5,none⟩ (.int .i64 2))=w3 at *
      have n0:w3.cell? ⟨N,0,none⟩=some (.int .i64 es):=nb.cell 0
      have n1:w3.cell? ⟨N,1,none⟩=some (.int .i64 ed):=nb.cell 1
      have n2:w3.cell? ⟨N,2,none⟩=some (.int .i64 ea):=nb.cell 2
      have n3:w3.cell? ⟨N,3,none⟩=some (.int .i64 en):=nb.cell 3
      have n4:w3.cell? ⟨N,4,none⟩=some (.int .i64 eu):=nb.cell 4
      have n5:w3.cell? ⟨N,5,none⟩=some (.int .i64 2):=nb.cell 5
      have n6:w3.cell? ⟨N,6,none⟩=some (.string (strOfNums eh)):=nb.cell 6
      have n7:w3.cell? ⟨N,7,none⟩=some (.string (strOfNums ec)):=nb.cell 7
      have FB:=Kept.mk (fp_below (F:=fk t x G v) b3)
      have PY:=Kept.mk (pay_any (P0.out.below b3) es k HK.out ⟨es,ed,ea,en,eu,2,eh,ec⟩)
      unfold evV at PY
      dsimp only at PY
      clear b3 nb P0
      go_wp2_with fail
      refine PY.out.mono ?_
      rintro e w4 ⟨rfl,F',hc,fp⟩
      have HC:=Kept.mk hc
      have FF:=Kept.mk (FB.out.trans fp)
      clear hc fp PY
      go_wp2
      go_ret
      exact⟨rfl,F',HC.out,FF.out⟩
   ·have hs':(et == 0)=false:=beq_eq_false_iff_ne.2 hs
    have RF:Kept (refundB b es k clock=(9,b)):=⟨by rw[RS.out,if_neg (fun e=>e rfl),if_pos hs]⟩
    go_enter Tryz.func239,Tryz.ntmps239
    go_wp2_with fail
    refine GT.out.mono ?_
    rintro e w1 ⟨hx,b1⟩
    replace hx:e=.returned (.tuple #[.agg #[.int .i64 es,.int .i64 ed,.int .i64 ea,.int .i64 en,.int .i64 eu,.int .i64 et,.string (strOfNums eh),.string (strOfNums ec)],.bool true]):=hx
    subst hx
    have B1:=Kept.mk b1
    clear b1 GT
    go_wp2_with (go_at_call 114;(with_reducible refine(TI.out _).mono ?_);rintro e w' ⟨rfl,rfl⟩)
    go_ret
    rw[RF.out]
    have b2:=B1.out.alloc B1.out.size (.cells #[.int .i64 es,.int .i64 ed,.int .i64 ea,.int .i64 en,.int .i64 eu,.int .i64 et,.string (strOfNums eh),.string (strOfNums ec)] 261)
    exact⟨rfl,_,⟨G,v,P0.out.below b2,rfl⟩,fp_below b2⟩
  ·have hw':(who == es)=false:=beq_eq_false_iff_ne.2 (fun e=>hw e.symm)
   have RF:Kept (refundB b who k clock=(14,b)):=⟨by rw[RS.out,if_pos hw]⟩
   go_enter Tryz.func239,Tryz.ntmps239
   go_wp2_with fail
   refine GT.out.mono ?_
   rintro e w1 ⟨hx,b1⟩
   replace hx:e=.returned (.tuple #[.agg #[.int .i64 es,.int .i64 ed,.int .i64 ea,.int .i64 en,.int .i64 eu,.int .i64 et,.string (strOfNums eh),.string (strOfNums ec)],.bool true]):=hx
   subst hx
   have B1:=Kept.mk b1
   clear b1 GT
   go_wp2_with (go_at_call 114;(with_reducible refine(TI.out _).mono ?_);rintro e w' ⟨rfl,rfl⟩)
   go_ret
   rw[RF.out]
   have b2:=B1.out.alloc B1.out.size (.cells #[.int .i64 es,.int .i64 ed,.int .i64 ea,.int .i64 en,.int .i64 eu,.int .i64 et,.string (strOfNums eh),.string (strOfNums ec)] 261)
   exact⟨rfl,_,⟨G,v,P0.out.below b2,rfl⟩,fp_below b2⟩
end
end Go.Proofs.YtidjkhpekhpffaaGreat.Escrow
