/-
  Parts laid together: AppC WireFits PurseCode PurseGrow PurseCode2 Clone PurseCode3 PurseMove SliceAt MakeB.
-/
import Derived.Test.YtchcgoabogcabaaGreatPart7
import Derived.Maps.AppendAt
import Derived.RegionTactic
import Derived.Test.YtchcgoabogcabaaGreatPart3
import Derived.Test.YtchcgoabogcabaaGreatPart6
import Derived.Lib.SliceRun
namespace Go.Proofs.YtchcgoabogcabaaGreat.Sha
open Go.RowKit
section
variable {α : Type} {C : α → List Value} {z : Nat}
theorem rc_news {w:World}{ad:Addr}{n:Nat}{l:List α}(hC:∀ x,(C x).length=z) (hz:0 < z) (h:Rc C z w (some ad) n l):∀ j u,(l.flatMap C)[j]?=some u→w.cell? (ad.add j)=some u:=by
 intro j u hj
 have hlt:=(List.getElem?_eq_some_iff.1 hj).1
 rw[flatC_len C z hC] at hlt
 have hk:j / z < l.length:=(Nat.div_lt_iff_lt_mul hz).2 hlt
 have hm:j % z < z:=Nat.mod_lt _ hz
 have e:j / z * z+j % z=j:=by rw[Nat.mul_comm];exact Nat.div_add_mod j z
 rcases h.2 with h0|⟨b,o,hA,hc⟩
 ·have:=h.1;rw[this,h0,Nat.zero_mul] at hlt;omega
 ·injection hA with hA
  subst hA
  have hx:l[j / z]?=some (l[j / z]'hk):=List.getElem?_eq_getElem _
  have h1:=flatC_at C z hC l (j / z) (j % z) _ hx hm
  rw[e,hj] at h1
  have h2:=hc (j / z) _ hx (j % z) u h1.symm
  rw[Nat.add_assoc,e] at h2
  rw[show (⟨b,o,none⟩:Addr).add j=⟨b,o+j,none⟩ by cases j<;>simp[Addr.add]]
  exact h2
theorem wp_append_rc {P:Program}{w:World}{o:Oper}{a:Act}{K:Act→World→Prop}{Q:Exit→Act→World→Prop}(s x:Operand) (t:TypeId)
  (ho:o.op=.call { callee:=.builtin .append,args:=#[s,x],argTypes:=#[t,t] })
  (base:Nat) (e:TypeId) (i:TypeInfo) (zv:Value) (bytes:Nat) (ht:P.underlying t=some (.slice e)) (hi:P.info? e=some i) (hz:i.zero=some zv)
  (hsize:i.size=z) (hby:i.bytes=bytes) (hzs:zv.cells.size=z) (hsz:0 < z)
  (v:Value) (n:Nat) (xs:List Value) (hs:a.eval s=v) (hown:w.ownsRow base e z v n xs)
  (A:Option Addr) (m c:Nat) (l:List α) (hx:a.eval x=.slice A m c) (hr:Rc C z w A m l) (hC:∀ x,(C x).length=z) (h1:∀ x,∀ u∈C x,u.oneCell'=true)
  (h63:n+m≤maxLen) (hbytes:(n+m) * bytes≤140737488355328) (hbase:base≤w.heap.size)
  (h:∀ v' w',w'.ownsRow base e z v' (n+m) (xs++l.flatMap C)→w.grownBy w' v.ownBlock→(v'.ownBlock=v.ownBlock∨v'.ownBlock=some w.heap.size)→K (a.put o.dst v') w'):o.wp P a w K Q:=by
 cases A with
 | none =>
  have h0:m=0:=by
   rcases hr.2 with h3|⟨_,_,h4,_⟩
   ·exact h3
   ·cases h4
  subst h0
  obtain rfl:l=[]:=List.eq_nil_of_length_eq_zero hr.1
  have hrun:=run_append_nil_any (P:=P) w base t o.type e i z ht hi v n xs hown c
  unfold Oper.wp execOp
  simp only[ho,resolve,invoke,builtin,Sem.run_bind,Sem.run_pure,Result.andThen_ok,List.map_toArray,List.map_cons,List.map_nil,hs,hx,hrun]
  exact h v w (by simpa using hown) (World.grownBy.refl _ _) (.inl rfl)
 | some ad =>
  obtain⟨v',w',hrun,h2,h3,_,h5⟩:=run_append_own_at (P:=P) w base t o.type e i zv z bytes ht hi hz hsize hby hzs hsz v n xs hown ad m c (l.flatMap C) (by rw[flatC_len C z hC,hr.1]) (rc_news hC hsz hr) (fun u hu=>by obtain⟨y,-,hy⟩:=List.mem_flatMap.1 hu;exact h1 y u hy) h63 hbytes hbase
  unfold Oper.wp execOp
  simp only[ho,resolve,invoke,builtin,Sem.run_bind,Sem.run_pure,Result.andThen_ok,List.map_toArray,List.map_cons,List.map_nil,hs,hx,hrun]
  exact h v' w' h2 h3 h5
theorem step_append_rc {P:Program}{w:World}{ops:Array Oper}{o:Oper}{a:Act}{K:Act→World→Prop}{Q:Exit→Act→World→Prop}{E:Prop}(hgd:o.guard=none) (s x:Operand) (t:TypeId)
  (ho:o.op=.call { callee:=.builtin .append,args:=#[s,x],argTypes:=#[t,t] })
  (base:Nat) (e:TypeId) (i:TypeInfo) (zv:Value) (bytes:Nat) (ht:P.underlying t=some (.slice e)) (hi:P.info? e=some i) (hz:i.zero=some zv)
  (hsize:i.size=z) (hby:i.bytes=bytes) (hzs:zv.cells.size=z) (hsz:0 < z)
  (v:Value) (n:Nat) (xs:List Value) (hs:a.eval s=v) (hown:w.ownsRow base e z v n xs)
  (A:Option Addr) (m c:Nat) (l:List α) (hx:a.eval x=.slice A m c) (hr:Rc C z w A m l) (hC:∀ x,(C x).length=z) (h1:∀ x,∀ u∈C x,u.oneCell'=true)
  (h63:n+m≤maxLen) (hbytes:(n+m) * bytes≤140737488355328) (hbase:base≤w.heap.size)
  (h:∀ v' w',w'.ownsRow base e z v' (n+m) (xs++l.flatMap C)→w.grownBy w' v.ownBlock→(v'.ownBlock=v.ownBlock∨v'.ownBlock=some w.heap.size)→K (a.put o.dst v') w') :
  if Region.wanted o (yielded ops a.tmps)=true then Oper.wp P o a w K Q else E:=by
 have hw:Region.wanted o (yielded ops a.tmps)=true:=by simp[Region.wanted,hgd]
 rw[if_pos hw]
 exact wp_append_rc s x t ho base e i zv bytes ht hi hz hsize hby hzs hsz v n xs hs hown A m c l hx hr hC h1 h63 hbytes hbase h
end
end Go.Proofs.YtchcgoabogcabaaGreat.Sha
namespace Go.Proofs.YtchcgoabogcabaaGreat.Wire
open Go.RowKit Go.Proofs.YtchcgoabogcabaaGreat.Sha
theorem fits_code (n s:Int) (h1:1≤s) (h8:s < 8) (h0:0≤n) (hm:n≤4611686018427387904):decide (n < 2 ^ (8 * s).toNat)=fits n s:=by
 obtain⟨k,rfl⟩:∃ k:Nat,s=k:=⟨s.toNat,by omega⟩
 rw[show (8 * (k:Int)).toNat=8 * k by omega]
 unfold fits
 apply decide_eq_decide.2
 have e:(2:Int) ^ (8 * k)=256 ^ (k:Int).toNat:=by
  rw[Int.toNat_natCast,Int.pow_mul];rfl
 rw[e]
 exact⟨fun h=>⟨h1,by omega,h0,hm,h⟩,fun h=>h.2.2.2.2⟩
theorem errs_cases (n s:Int):(1≤s∧s≤8∧0≤n∧n≤4611686018427387904∧IntKind.u64.wrap (8 * s)=8 * s∧IntKind.i64.wrap (8 * s)=8 * s∧Kept ((s == 8 || decide (n < wrap64 (2 ^ (8 * s).toNat)))=fits n s)) ∨
      (fits n s=false∧(decide (1≤s)=false∨(1≤s∧decide (s≤8)=false)∨(1≤s∧s≤8∧decide (0≤n)=false)∨(1≤s∧s≤8∧0≤n∧decide (n≤4611686018427387904)=false))):=by
    by_cases h1:1≤s
    · by_cases h8:s≤8
      · by_cases h0:0≤n
        · by_cases hm:n≤4611686018427387904
          · refine .inl ⟨h1,h8,h0,hm,by rw[IntKind.wrap_u64];omega,by rw[IntKind.wrap_i64];omega,⟨?_⟩⟩
            by_cases h:s=8
            · subst h
              have hf:fits n 8=true:=decide_eq_true ⟨by omega,by omega,h0,hm,by
                have:(256:Int) ^ (8:Int).toNat=18446744073709551616:=by decide +kernel
                rw[this];omega⟩
              rw[hf];rfl
            · rw[← fits_code n s h1 (by omega) h0 hm,beq_eq_false_iff_ne.2 h,Bool.false_or]
              have hk:s=1∨s=2∨s=3∨s=4∨s=5∨s=6∨s=7:=by omega
              have hw:wrap64 (2 ^ (8 * s).toNat)=2 ^ (8 * s).toNat:=by
                rcases hk with rfl|rfl|rfl|rfl|rfl|rfl|rfl<;>decide +kernel
              rw[hw]
          · exact .inr ⟨decide_eq_false (fun hc=>hm hc.2.2.2.1),.inr (.inr (.inr ⟨h1,h8,h0,decide_eq_false hm⟩))⟩
        · exact .inr ⟨decide_eq_false (fun hc=>h0 hc.2.2.1),.inr (.inr (.inl ⟨h1,h8,decide_eq_false h0⟩))⟩
      · exact .inr ⟨decide_eq_false (fun hc=>h8 hc.2.1),.inr (.inl ⟨h1,decide_eq_false h8⟩)⟩
    · exact .inr ⟨decide_eq_false (fun hc=>h1 hc.1),.inl (decide_eq_false h1)⟩
end Go.Proofs.YtchcgoabogcabaaGreat.Wire
namespace Go.Proofs.YtchcgoabogcabaaGreat.Purse
open Go.RowKit Go.Proofs.YtchcgoabogcabaaGreat.Sha Go.Proofs.YtchcgoabogcabaaGreat.Num
def Pc (w:World) (F:List Nat) (p:Nat) (s:PS):Prop:=WF s∧Mx 163 w F p s.na s.np (fun a i=>s.v i a)
section
variable {w : World} {F : List Nat} {p : Nat} {s : PS}
theorem parties_any (h:Pc w F p s):Calls Tryz.prog 95 #[.pointer (some ⟨p,0,none⟩)] w fun e w'=>e=.returned (.int .i64 (s.np:Nat))∧w=w':=by
 obtain⟨h0,g,c,R,C,h⟩:=h
 have p0:=h.p0
 have g0:=h.gi (i:=0) (by have:=h0.a1;omega)
 have h1:=h0.a1
 clear h0 h
 generalize s.np=np at *
 generalize s.na=na at *
 go_enter Tryz.func95,Tryz.ntmps95
 go_wp2
 go_ret
 exact⟨rfl,rfl⟩
theorem assets_any (h:Pc w F p s):Calls Tryz.prog 131 #[.pointer (some ⟨p,0,none⟩)] w fun e w'=>e=.returned (.int .i64 (s.na:Nat))∧w=w':=by
 obtain⟨h0,g,c,R,C,h⟩:=h
 have p0:=h.p0
 clear h0 h
 generalize s.na=na at *
 go_enter Tryz.func131,Tryz.ntmps131
 go_wp2
 go_ret
 exact⟨rfl,rfl⟩
theorem party_any (h:Pc w F p s) (i:Int):Calls Tryz.prog 138 #[.pointer (some ⟨p,0,none⟩),.int .i64 i] w fun e w'=>e=.returned (.bool (isP s i))∧w=w':=by
 have H:=Kept.mk h
 have e:∀ b,isP s i=b→Kept (isP s i=b):=fun b h=>⟨h⟩
 clear h
 by_cases h0:0≤i
 ·by_cases h1:i < s.np
  ·have E:=e true (isP_iff.2 ⟨h0,h1⟩)
   rw[E.out]
   clear e E
   go_enter Tryz.func138,Tryz.ntmps138
   go_wp2_with (go_at_call 95;refine(parties_any H.out).mono ?_;rintro e w' ⟨rfl,rfl⟩)
   go_ret
   exact⟨rfl,rfl⟩
  ·have E:=e false (by unfold isP;exact decide_eq_false (by omega))
   rw[E.out]
   clear e E
   have hd:decide (i < (s.np:Int))=false:=decide_eq_false h1
   go_enter Tryz.func138,Tryz.ntmps138
   go_wp2_with (go_at_call 95;refine(parties_any H.out).mono ?_;rintro e w' ⟨rfl,rfl⟩)
   go_ret
   exact⟨rfl,rfl⟩
 ·have E:=e false (by unfold isP;exact decide_eq_false (by omega))
  rw[E.out]
  clear e E
  go_enter Tryz.func138,Tryz.ntmps138
  go_wp2_with (go_at_call 95;refine(parties_any H.out).mono ?_;rintro e w' ⟨rfl,rfl⟩)
  go_ret
  exact⟨rfl,rfl⟩
theorem asset_any (h:Pc w F p s) (i:Int):Calls Tryz.prog 107 #[.pointer (some ⟨p,0,none⟩),.int .i64 i] w fun e w'=>e=.returned (.bool (isA s i))∧w=w':=by
 have H:=Kept.mk h
 have e:∀ b,isA s i=b→Kept (isA s i=b):=fun b h=>⟨h⟩
 clear h
 by_cases h0:0≤i
 ·by_cases h1:i < s.na
  ·have E:=e true (isA_iff.2 ⟨h0,h1⟩)
   rw[E.out]
   clear e E
   go_enter Tryz.func107,Tryz.ntmps107
   go_wp2_with (go_at_call 131;refine(assets_any H.out).mono ?_;rintro e w' ⟨rfl,rfl⟩)
   go_ret
   exact⟨rfl,rfl⟩
  ·have E:=e false (by unfold isA;exact decide_eq_false (by omega))
   rw[E.out]
   clear e E
   have hd:decide (i < (s.na:Int))=false:=decide_eq_false h1
   go_enter Tryz.func107,Tryz.ntmps107
   go_wp2_with (go_at_call 131;refine(assets_any H.out).mono ?_;rintro e w' ⟨rfl,rfl⟩)
   go_ret
   exact⟨rfl,rfl⟩
 ·have E:=e false (by unfold isA;exact decide_eq_false (by omega))
  rw[E.out]
  clear e E
  go_enter Tryz.func107,Tryz.ntmps107
  go_wp2_with (go_at_call 131;refine(assets_any H.out).mono ?_;rintro e w' ⟨rfl,rfl⟩)
  go_ret
  exact⟨rfl,rfl⟩
theorem fits_any (h:Pc w F p s) (i a n:Int):Calls Tryz.prog 137 #[.pointer (some ⟨p,0,none⟩),.int .i64 i,.int .i64 a,.int .i64 n] w fun e w'=>e=.returned (.bool (fitB s i a n))∧w=w':=by
 have P:=Kept.mk (party_any h i)
 have A:=Kept.mk (asset_any h a)
 clear h
 unfold fitB
 cases hp:isP s i with
 | false =>
  rw[hp] at P
  go_enter Tryz.func137,Tryz.ntmps137
  go_wp2_with (first|(go_at_call 138;refine P.out.mono ?_;rintro e w' ⟨rfl,rfl⟩)|(go_at_call 107;refine A.out.mono ?_;rintro e w' ⟨rfl,rfl⟩)|(go_at_call 122;refine(amount_any _ _).mono ?_;rintro e w' ⟨rfl,rfl⟩))
  go_ret
  exact⟨rfl,rfl⟩
 | true =>
  rw[hp] at P
  cases ha:isA s a with
  | false =>
   rw[ha] at A
   go_enter Tryz.func137,Tryz.ntmps137
   go_wp2_with (first|(go_at_call 138;refine P.out.mono ?_;rintro e w' ⟨rfl,rfl⟩)|(go_at_call 107;refine A.out.mono ?_;rintro e w' ⟨rfl,rfl⟩)|(go_at_call 122;refine(amount_any _ _).mono ?_;rintro e w' ⟨rfl,rfl⟩))
   go_ret
   exact⟨rfl,rfl⟩
  | true =>
   rw[ha] at A
   go_enter Tryz.func137,Tryz.ntmps137
   go_wp2_with (first|(go_at_call 138;refine P.out.mono ?_;rintro e w' ⟨rfl,rfl⟩)|(go_at_call 107;refine A.out.mono ?_;rintro e w' ⟨rfl,rfl⟩)|(go_at_call 122;refine(amount_any _ _).mono ?_;rintro e w' ⟨rfl,rfl⟩))
   go_ret
   exact⟨rfl,rfl⟩
end
structure Gr (T:TypeId) (w:World) (N p g na:Nat) (L:Nat→List Int) (V:Nat→Value):Prop where
 hT:T≠41∧T≠3
 hp:Blk w p T #[.slice (some ⟨g,0,none⟩) na na]
 hg:∃ cur:Array Value,Blk w g 41 cur∧∀ a,a < na→cur[a]?=some (V a)
 own:∀ a,a < na→w.ownsRow N 3 1 (V a) (L a).length (ints .i64 (L a))
 ap:∀ a b,a < na→b < na→a≠b→Apart (V a) (V b)
 lo:N≤p∧N≤g∧na≤100
section
variable {T : TypeId} {w w' : World} {N p g na a : Nat} {x : Int} {L : Nat → List Int} {V : Nat → Value}
theorem Gr.gt (h:Gr T w N p g na L V):g < w.heap.size:=by obtain⟨cur,h1,-⟩:=h.hg;exact h1.lt
theorem Gr.below (h:Gr T w N p g na L V) (b:Below w.heap.size w w'):Gr T w' N p g na L V:=by
 obtain⟨cur,h1,h2⟩:=h.hg
 exact⟨h.hT,h.hp.below b h.hp.lt,⟨cur,h1.below b h1.lt,h2⟩,fun a ha=>own_keep (h.own a ha) (barOf b []) (by simp),h.ap,h.lo⟩
theorem Gr.p0 (h:Gr T w N p g na L V):w.cell? ⟨p,0,none⟩=some (.slice (some ⟨g,0,none⟩) na na):=h.hp.cell 0
theorem Gr.ga (h:Gr T w N p g na L V) {a:Nat}(ha:a < na):w.cell? ⟨g,a,none⟩=some (V a):=by
 obtain⟨cur,h1,h2⟩:=h.hg
 rw[h1.cell,h2 a ha]
theorem Gr.fz (h:Gr T w N p g na L V) (a:Nat):w.frozen? ⟨g,a,none⟩=false:=by
 obtain⟨cur,h1,h2⟩:=h.hg
 exact h1.frozen a
theorem Gr.pg (h:Gr T w N p g na L V):p≠g:=by obtain⟨cur,h1,-⟩:=h.hg;exact blk_ne h.hp h1 h.hT.1
theorem Gr.far_g (h:Gr T w N p g na L V) {a:Nat}(ha:a < na):(V a).ownBlock≠some g:=by
 obtain⟨cur,h1,h2⟩:=h.hg
 exact own_far (h.own a ha) h1 (by decide)
theorem Gr.far_p (h:Gr T w N p g na L V) {a:Nat}(ha:a < na):(V a).ownBlock≠some p:=own_far (h.own a ha) h.hp (fun e=>h.hT.2 e.symm)
theorem Gr.past (h:Gr T w N p g na L V) {row:Option Nat}(hg:w.grownBy w' row) (hr:row≠some g) {a:Nat}(ha:a < na) {v:Value}(hv:V a=v):w'.cell? ⟨g,a,none⟩=some v∧w'.frozen? ⟨g,a,none⟩=false:=by
 obtain⟨cur,c1,c2⟩:=h.hg
 have k:=c1.grown hg (fun e=>hr e.symm)
 exact⟨by rw[k.cell,c2 a ha,hv],k.frozen a⟩
theorem Gr.pastp (h:Gr T w N p g na L V) {row:Option Nat}(hg:w.grownBy w' row) (hr:row≠some p):w'.cell? ⟨p,0,none⟩=some (.slice (some ⟨g,0,none⟩) na na):=(h.hp.grown hg (fun e=>hr e.symm)).cell 0
theorem Gr.turn (h:Gr T w N p g na L V) {a:Nat}(ha:a < na) {v':Value}{l:List Int}{w1:World}(hgrow:w.grownBy w1 (V a).ownBlock) (hown:w1.ownsRow N 3 1 v' l.length (ints .i64 l))
  (hat:v'.ownBlock=(V a).ownBlock∨∀ k,v'.ownBlock=some k→w.heap.size≤k) {L':Nat→List Int} (hL:L' a=l) (hL':∀ b,b < na→b≠a→L' b=L b) :
  Gr T (w1.setCell ⟨g,a,none⟩ v') N p g na L' (fun b=>if b=a then v' else V b)∧Below N w (w1.setCell ⟨g,a,none⟩ v'):=by
 have bg:Bar (V a).ownBlock.toList w w1:=Bar.grownRow hgrow
 have hp1:Blk w1 p T #[.slice (some ⟨g,0,none⟩) na na]:=h.hp.bar bg (by simpa using h.far_p ha)
 obtain⟨cur,c1,c2⟩:=h.hg
 have hg1:Blk w1 g 41 cur:=c1.bar bg (by simpa using h.far_g ha)
 have hne:v'.ownBlock≠some g:=own_far hown hg1 (by decide)
 have bs:Bar [g] w1 (w1.setCell ⟨g,a,none⟩ v'):=(Bar.refl _ w1).setCell (by simp) _
 have others:∀ b,b < na→b≠a→w1.ownsRow N 3 1 (V b) (L b).length (ints .i64 (L b))∧Apart (V b) v'∧Apart v' (V b):=by
  intro b hb hba
  have e1:=h.ap a b ha hb (fun e=>hba e.symm)
  have e2:=h.ap b a hb ha hba
  refine⟨(h.own b hb).kept hgrow ?_,?_,?_⟩
  ·cases hq:(V b).ownBlock with
   | none=>exact .inl rfl
   | some k=>exact .inr (fun he=>e2 k hq he.symm)
  ·intro k hk hv
   rcases hat with hat|hat
   ·rw[hat] at hv;exact e2 k hk hv
   ·have:=((h.own b hb).lt k hk).2;have:=hat k hv;omega
  ·intro k hv hk
   rcases hat with hat|hat
   ·rw[hat] at hv;exact e1 k hv hk
   ·have:=((h.own b hb).lt k hk).2;have:=hat k hv;omega
 refine⟨⟨h.hT,hp1.bar bs (by simpa using h.pg),⟨_,hg1.set_ a v',fun b hb=>?_⟩,fun b hb=>?_,fun b c hb hc hbc=>?_,h.lo⟩,?_⟩
 ·rw[Array.getElem?_setIfInBounds]
  by_cases e:a=b
  ·subst e
   simp[(Array.getElem?_eq_some_iff.1 (c2 a hb)).1]
  ·rw[if_neg e,if_neg (fun k=>e k.symm)];exact c2 b hb
 ·by_cases e:b=a
  ·subst e
   simp only[if_true]
   rw[hL]
   exact own_keep hown bs (by
    intro k hk
    simp only[Option.mem_toList] at hk
    simp only[List.mem_cons,List.not_mem_nil,or_false]
    rintro rfl
    exact hne hk)
  ·simp only[e,if_false]
   rw[hL' b hb e]
   exact own_keep (others b hb e).1 bs (by
    intro k hk
    simp only[Option.mem_toList] at hk
    simp only[List.mem_cons,List.not_mem_nil,or_false]
    rintro rfl
    exact h.far_g hb hk)
 ·by_cases e:b=a
  ·subst e
   have e2:c≠b:=fun k=>hbc k.symm
   simp only[if_true,e2,if_false]
   exact(others c hc e2).2.2
  ·by_cases e2:c=a
   ·subst e2
    simp only[e,if_false,if_true]
    exact(others b hb e).2.1
   ·simp only[e,e2,if_false]
    exact h.ap b c hb hc hbc
 ·have b1:Below N w w1:=own_below (h.own a ha) hgrow (by have:=h.gt;have:=h.lo;omega)
  exact b1.setCell (by have:=h.lo;simpa using h.lo.2.1) _
theorem Gr.pushed (h:Gr T (w.alloc (.cells #[.int .i64 x] 3)).drew N p g na L V) {v:Value}{k:Nat}(HV:Kept (V a=v)) (ha:a < na) {w3:World}{gg cg:Nat}{l l':List Int}(hl:l'=l++[x]) (hk:l'.length=k+1)
  (hgrow:(w.alloc (.cells #[.int .i64 x] 3)).drew.grownBy w3 v.ownBlock) (hown:w3.ownsRow N 3 1 (.slice (some ⟨gg,0,none⟩) (k+1) cg) (k+1) (ints .i64 l++[.int .i64 x]))
  (hat:v.ownBlock=some gg∨gg=w.heap.size+1) {L':Nat→List Int} (hL':L' a=l') (hF:∀ b,b < na→b≠a→L' b=L b) {w0:World} (B:Kept (Below N w0 w)) (NN:N≤w.heap.size) :
  ∃ V',Kept (Gr T (w3.setCell ⟨g,a,none⟩ (.slice (some ⟨gg,0,none⟩) (k+1) cg)) N p g na L' V')∧Kept (Below N w0 (w3.setCell ⟨g,a,none⟩ (.slice (some ⟨gg,0,none⟩) (k+1) cg))):=by
 have hv:=HV.out
 subst hv
 have h1:=h.turn ha (v':=.slice (some ⟨gg,0,none⟩) (k+1) cg) (l:=l') hgrow (by rw[hk,hl,ints_append];exact hown) (by
  rcases hat with e|e
  ·exact .inl e.symm
  ·exact .inr (fun q hq=>by simp[Value.ownBlock] at hq;subst hq;simp;omega)) hL' hF
 exact⟨_,⟨h1.1⟩,⟨((B.out.alloc NN _).drew).trans h1.2⟩⟩
theorem Gr.start (hT:T≠41∧T≠3) (hp:Blk w p T #[.slice (some ⟨g,0,none⟩) na na]) (hg:Blk w g 41 (List.replicate na (Value.slice none 0 0)).toArray) (h1:N≤p) (h2:N≤g) (h3:na≤100) :
  Gr T w N p g na (fun _=>[]) (fun _=>.slice none 0 0) :=
 ⟨hT,hp,⟨_,hg,fun a ha=>by simp[ha]⟩,fun a _=>World.ownsRow_nil _ _ _ _,fun a b _ _ _ k hk=>by simp[Value.ownBlock] at hk,h1,h2,h3⟩
theorem Gr.congr (h:Gr T w N p g na L V) {L':Nat→List Int}(e:∀ a,a < na→L' a=L a):Gr T w N p g na L' V :=
 ⟨h.hT,h.hp,h.hg,fun a ha=>by rw[e a ha];exact h.own a ha,h.ap,h.lo⟩
theorem Gr.ints (h:Gr T w N p g na L V) (ha:a < na) {m:Nat}(hL:(L a).length=m):∃ A c,V a=.slice A m c∧Num.Ints w A m (L a):=by
 have ho:=h.own a ha
 rw[hL] at ho
 rcases ho.2 with⟨hv,hx⟩|⟨r,c,cur,hv,hr,hb,h1,h2,h3,h4⟩
 ·subst hx
  exact⟨none,0,hv,hL,by omega,.inl rfl⟩
 ·refine⟨_,c,hv,hL,by unfold maxLen at h2;omega,.inr ⟨r,0,rfl,fun i hi=>?_⟩⟩
  rw[hv] at ho
  have h5:=World.ownsRow.cellAt ho i (by omega)
  rw[Sha.ints_at _ _ _ (by omega)] at h5
  rw[Nat.zero_add,h5]
  rfl
def slBlk:Value→Nat
 | .slice (some ad) _ _=>ad.block
 | _=>0
def slCap:Value→Nat
 | .slice _ _ c=>c
 | _=>0
theorem Gr.mx (h:Gr T w N p g na L V) {m:Nat}(hm:1≤m) (hL:∀ a,a < na→(L a).length=m):∃ F,Mx T w F p na m (fun a i=>at_ (L a) i)∧∀ k∈F,N≤k:=by
 have sh:∀ a,a < na→∃ r c cur,V a=.slice (some ⟨r,0,none⟩) m c∧N≤r∧Blk w r 3 cur∧m≤c∧c≤9223372036854775807∧∀ j,j < m→cur[j]?=some (.int .i64 (at_ (L a) j)):=by
  intro a ha
  have ho:=h.own a ha
  rcases ho.2 with⟨hv,hx⟩|⟨r,c,cur,hv,hr,hb,h1,h2,h3,h4⟩
  ·have:=hL a ha
   omega
  ·rw[hL a ha] at hv h1
   refine⟨r,c,cur,hv,hr,hb,h1,by unfold maxLen at h2;omega,fun j hj=>?_⟩
   rw[hv,hL a ha] at ho
   have h5:=World.ownsRow.cellAt ho j (by omega)
   rw[show w.cell? ⟨r,j,none⟩=cur[j]? from cell_of_row w r j cur _ (0,0) hb,Sha.ints_at _ _ _ (by rw[hL a ha];exact hj)] at h5
   exact h5
 have vb:∀ a,a < na→V a=.slice (some ⟨slBlk (V a),0,none⟩) m (slCap (V a))∧N≤slBlk (V a)∧m≤slCap (V a)∧slCap (V a)≤9223372036854775807∧RowOf w (slBlk (V a)) m (fun i=>at_ (L a) i):=by
  intro a ha
  obtain⟨r,c,cur,hv,hr,hb,h1,h2,h3⟩:=sh a ha
  rw[hv]
  exact⟨rfl,hr,h1,h2,cur,hb,h3⟩
 obtain⟨cur,c1,c2⟩:=h.hg
 have hlo:=h.lo
 refine⟨_,⟨g,na,fun a=>slBlk (V a),fun a=>slCap (V a),h.hT,h.hp,⟨cur,c1,fun a ha=>by rw[c2 a ha,← (vb a ha).1]⟩,⟨Nat.le_refl _,by omega⟩,fun a ha=>(vb a ha).2.2,fun a b ha hb hab=>?_,rfl⟩,?_⟩
 ·by_cases e:a=b
  ·exact e
  ·exfalso
   refine h.ap a b ha hb e (slBlk (V a)) ?_ ?_
   ·rw[(vb a ha).1];rfl
   ·rw[(vb b hb).1]
    show some (slBlk (V b))=some (slBlk (V a))
    rw[hab]
 ·intro k hk
  simp only[List.mem_cons,List.mem_map,List.mem_range] at hk
  rcases hk with rfl|rfl|⟨a,ha,rfl⟩
  ·exact hlo.1
  ·exact hlo.2.1
  ·exact(vb a ha).2.1
end
theorem info_row:(Tryz.prog.info? 41).map (fun i=>(i.zero,i.size,i.bytes))=some (some (.slice none 0 0),1,24):=by kernel_rfl
theorem make_rows (w:World) (n:Nat) (hn:n≤100):∃ w',(Instr.makeSlice 22 (.int .i64 (n:Int)) (.int .i64 (n:Int))).run Tryz.prog w=.ok (.slice (some ⟨w.heap.size,0,none⟩) n n) w'∧Blk w' w.heap.size 41 (List.replicate n (Value.slice none 0 0)).toArray∧Below w.heap.size w w':=by
 obtain⟨iu,hi,hz0,hz1,hz2⟩:=info_parts info_row
 obtain⟨w',hm,own,gr⟩:=run_makeSlice_full (P:=Tryz.prog) w w.heap.size 22 41 iu _ 1 Tryz.underlying22 hi hz0 hz1 .i64 .i64 n (by omega) (by rw[hz2];omega) (by unfold maxLen;omega) (Nat.le_refl _)
 refine⟨w',hm,?_,⟨gr.os,gr.tape,gr.output,gr.size,fun k hk=>gr.block k hk (by simp)⟩⟩
 have e:(madeCells (Value.slice none 0 0).cells (n * 1)).toList=List.replicate n (Value.slice none 0 0):=by
  rw[show (Value.slice none 0 0).cells=#[.slice none 0 0] from rfl,toList_madeCells_one,Nat.mul_one]
 rw[e] at own
 rcases own.2 with⟨h0,-⟩|⟨g,cap,cur,hv,-,hh,h1,-,hs,ht⟩
 ·cases h0
 ·have hv2:w.heap.size=g∧n=cap:=by
   have:=hv
   simp only[Value.slice.injEq,Option.some.injEq,Addr.mk.injEq] at this
   omega
  obtain⟨hg,rfl⟩:=hv2
  rw[hg]
  have:cur=(List.replicate n (Value.slice none 0 0)).toArray:=by
   apply Array.toList_inj.1
   rw[List.take_of_length_le (by simp;omega)] at ht
   rw[ht]
  rw[← this]
  exact hh
section
variable {w : World} {F : List Nat} {p : Nat} {s : PS}
theorem Pc.at_ {i a:Nat}(h:Pc w F p s) (hi:i < s.np) (ha:a < s.na):∃ g c R C,w.cell? ⟨p,0,none⟩=some (.slice (some ⟨g,0,none⟩) s.na c)∧w.cell? ⟨g,a,none⟩=some (.slice (some ⟨R,0,none⟩) s.np C)∧w.cell? ⟨R,i,none⟩=some (.int .i64 (s.v i a))∧w.frozen? ⟨R,i,none⟩=false ∧
  ∀ x,WF (put s i a x)→Pc (w.setCell ⟨R,i,none⟩ (.int .i64 x)) F p (put s i a x)∧Fp F F w (w.setCell ⟨R,i,none⟩ (.int .i64 x)):=by
 obtain⟨h0,g,c,R,C,h⟩:=h
 exact⟨g,c,R a,C a,h.p0,h.gi ha,h.rij ha hi,h.fz ha i,fun x hx=>⟨⟨hx,Mx.congr ⟨g,c,R,C,h.set ha i x⟩ (fun b j _ _=>by
  show upd s.v i a x j b=upd (fun a i=>s.v i a) a i x b j
  unfold upd
  by_cases e:j=i∧b=a
  ·rw[if_pos e,if_pos ⟨e.2,e.1⟩]
  ·rw[if_neg e,if_neg (fun k=>e ⟨k.2,k.1⟩)])⟩,h.fp ha _⟩⟩
set_option maxHeartbeats 400000 in
theorem total_any (h:Pc w F p s) (a:Int):Calls Tryz.prog 82 #[.pointer (some ⟨p,0,none⟩),.int .i64 a] w fun e w'=>e=.returned (.int .i64 (totP s a))∧w=w':=by
 have A:=Kept.mk (asset_any h a)
 cases ha:isA s a with
 | false =>
  rw[ha] at A
  have e:totP s a=0:=by simp[totP,ha]
  rw[e]
  clear e h
  go_enter Tryz.func82,Tryz.ntmps82
  go_wp2_with (go_at_call 107;refine A.out.mono ?_;rintro e w' ⟨rfl,rfl⟩)
  go_ret
  exact⟨rfl,rfl⟩
 | true =>
  rw[ha] at A
  have e:totP s a=tot s.v s.np a.toNat:=by simp[totP,ha]
  rw[e]
  clear e
  obtain⟨b,rfl,hb⟩:=isA_nat ha
  clear ha
  simp only[Int.toNat_natCast]
  obtain⟨h0,g,c,R,C,h⟩:=h
  have x1:=h.p0
  have x2:=h.gi hb
  have hs:=fun cap=>sum_any (some ⟨R b,0,none⟩) s.np cap _ w (h.ints hb)
  rw[show ((List.range s.np).map fun i=>s.v i b)=colV s.v s.np b from rfl,h0.sumN hb,h0.sumE hb] at hs
  have HS:=Kept.mk hs
  clear hs h h0
  go_enter Tryz.func82,Tryz.ntmps82
  go_wp2_with (first|(go_at_call 107;refine A.out.mono ?_;rintro e w' ⟨rfl,rfl⟩)|(go_at_call 87;refine(HS.out _).mono ?_;rintro e w' ⟨rfl,rfl⟩))
  go_ret
  exact⟨rfl,rfl⟩
end
end Go.Proofs.YtchcgoabogcabaaGreat.Purse
namespace Go.Proofs.YtchcgoabogcabaaGreat.Sha
open Go.RowKit
def NewRow (n:Nat) (xs:List Int) (w:World) (e:Ending) (w':World):Prop:=∃ v,e=.returned v∧w'.ownsRow w.heap.size 5 1 v n (ints .u8 xs)∧Below w.heap.size w w'
set_option maxRecDepth 100000 in
set_option maxHeartbeats 400000 in
theorem clone_any (A:Option Addr) (n cap:Nat) (xs:List Int) (w:World) (hr:Rd w A n xs) (hn:n < 2147483648) :
  Calls Tryz.prog 64 #[.slice A n cap] w (NewRow n xs w):=by
 cases A with
 | none =>
  have h0:n=0:=by
   rcases hr.2.2 with h|⟨_,_,h,_⟩
   ·exact h
   ·cases h
  subst h0
  obtain rfl:xs=[]:=List.eq_nil_of_length_eq_zero hr.1
  clear hr
  have hq:=Lib.run_eql_slice_nil (P:=Tryz.prog) w 26 5 none 0 cap 0 0 Tryz.underlying26
  go_enter Tryz.func64,Tryz.ntmps64
  go_wp2
  go_ret
  exact⟨_,rfl,World.ownsRow_nil _ _ _ _,Below.refl _ _⟩
 | some a =>
  obtain⟨N,hN⟩:∃ N,w.heap.size=N:=⟨_,rfl⟩
  have HR:=Kept.mk (hr.keep (l:=[]) ((Bar.refl [] w).alloc (.cells #[] 5)) (by simp))
  have hown:=World.ownsRow_made (base:=N) (e:=5) (size:=1) w #[] 0 (by omega) (by unfold maxLen;omega) rfl
  rw[hN] at hown
  have bel:Below N w (w.alloc (.cells #[] 5)):=(Below.refl _ _).alloc (by omega) _
  have Own:=Kept.mk hown
  have Bel:=Kept.mk bel
  clear hown bel hr
  have hq:=Lib.run_eql_slice_nil (P:=Tryz.prog) w 26 5 (some a) n cap 0 0 Tryz.underlying26
  go_enter Tryz.func64,Tryz.ntmps64
  go_wp2_with ((with_reducible refine sel 7 ?_);refine wpList_append_rd rfl (.tmp 5) (.tmp 6) 26 rfl N 5 Tryz.underlying26 info_u8 (.slice (some ⟨N,0,none⟩) 0 0) 0 [] rfl Own.out (some a) n cap xs rfl HR.out (by omega) (by simp[hN]) ?_;intro v' w' ho hg)
  go_ret
  refine⟨v',rfl,?_,?_⟩
  ·have:=ho.out
   simpa [hN] using this
  ·rw[hN];exact Bel.out.grown hg (by simp;omega) (by intro k hk;injection hk with hk;simp at hk;omega)
end Go.Proofs.YtchcgoabogcabaaGreat.Sha
namespace Go.Proofs.YtchcgoabogcabaaGreat.Purse
open Go.RowKit Go.Proofs.YtchcgoabogcabaaGreat.Sha Go.Proofs.YtchcgoabogcabaaGreat.Num
section
variable {w : World} {F : List Nat} {p : Nat} {s : PS}
set_option maxHeartbeats 1000000 in
theorem give_any (i a n:Int) (h:Pc w F p s):Calls Tryz.prog 142 #[.pointer (some ⟨p,0,none⟩),.int .i64 i,.int .i64 a,.int .i64 n] w (StepPost (fun w' F' s'=>Pc w' F' p s') w F (giveP s i a n)):=by
 have P:=Kept.mk (fits_any h i a n)
 have T:=Kept.mk (total_any h a)
 have H:=Kept.mk h
 clear h
 cases hf:fitB s i a n with
 | false =>
  rw[hf] at P
  rw[give_no (.inl hf)]
  clear hf
  go_enter Tryz.func142,Tryz.ntmps142
  go_wp2_with (go_at_call 137;refine P.out.mono ?_;rintro e w' ⟨rfl,rfl⟩)
  go_ret
  exact⟨rfl,F,H.out,Fp.refl _ _⟩
 | true =>
  rw[hf] at P
  obtain⟨⟨k,rfl,hk⟩,⟨b,rfl,hb⟩,n0,n1⟩:=fitB_iff.1 hf
  have t0:=H.out.1.tot0 hb
  have t1:=H.out.1.sum b hb
  rw[← totP_nat hb] at t0 t1
  by_cases ht:totP s b+n≤4611686018427387904
  ·have A:=Kept.mk (add_yes (totP s b) n w (add_iff.2 ⟨t0,n0,ht⟩))
   have hw:=giveP_wf H.out.1 (k:Int) (b:Int) n
   rw[give_yes hf ht] at hw ⊢
   have hv:=H.out.1.le hk hb
   obtain⟨g,c,R,C,x1,x2,x3,x4,hput⟩:=H.out.at_ hk hb
   have PUT:=Kept.mk (hput (s.v k b+n) hw)
   have hs:s.v k b+n≤4611686018427387904:=by
    have:=le_tot (v:=s.v) (a:=b) hk (fun j hj=>H.out.1.pos j b hj hb)
    rw[totP_nat hb] at ht
    omega
   clear hf hput hw ht
   generalize s.v k b=x at *
   go_enter Tryz.func142,Tryz.ntmps142
   go_wp2_with (first|(go_at_call 137;refine P.out.mono ?_;rintro e w' ⟨rfl,rfl⟩)|(go_at_call 82;refine T.out.mono ?_;rintro e w' ⟨rfl,rfl⟩)|(go_at_call 113;refine A.out.mono ?_;rintro e w' ⟨rfl,rfl⟩))
   go_ret
   exact⟨rfl,F,PUT.out.1,PUT.out.2⟩
  ·have A:=Kept.mk (add_no (totP s b) n w (by
    cases hq:addB (totP s b) n with
    | false=>rfl
    | true=>exact absurd (add_iff.1 hq).2.2 ht))
   rw[give_no (.inr ht)]
   clear hf ht
   go_enter Tryz.func142,Tryz.ntmps142
   go_wp2_with (first|(go_at_call 137;refine P.out.mono ?_;rintro e w' ⟨rfl,rfl⟩)|(go_at_call 82;refine T.out.mono ?_;rintro e w' ⟨rfl,rfl⟩)|(go_at_call 113;refine A.out.mono ?_;rintro e w' ⟨rfl,rfl⟩))
   go_ret
   exact⟨rfl,F,H.out,Fp.refl _ _⟩
set_option maxHeartbeats 1000000 in
theorem take_any (i a n:Int) (h:Pc w F p s):Calls Tryz.prog 123 #[.pointer (some ⟨p,0,none⟩),.int .i64 i,.int .i64 a,.int .i64 n] w (StepPost (fun w' F' s'=>Pc w' F' p s') w F (takeP s i a n)):=by
 have P:=Kept.mk (fits_any h i a n)
 have H:=Kept.mk h
 clear h
 cases hf:fitB s i a n with
 | false =>
  rw[hf] at P
  rw[take_no hf]
  clear hf
  go_enter Tryz.func123,Tryz.ntmps123
  go_wp2_with (go_at_call 137;refine P.out.mono ?_;rintro e w' ⟨rfl,rfl⟩)
  go_ret
  exact⟨rfl,F,H.out,Fp.refl _ _⟩
 | true =>
  rw[hf] at P
  obtain⟨⟨k,rfl,hk⟩,⟨b,rfl,hb⟩,n0,n1⟩:=fitB_iff.1 hf
  have hv:=H.out.1.le hk hb
  obtain⟨g,c,R,C,x1,x2,x3,x4,hput⟩:=H.out.at_ hk hb
  by_cases ht:s.v k b < n
  ·rw[take_less hf ht]
   clear hf hput
   generalize s.v k b=x at *
   go_enter Tryz.func123,Tryz.ntmps123
   go_wp2_with (go_at_call 137;refine P.out.mono ?_;rintro e w' ⟨rfl,rfl⟩)
   go_ret
   exact⟨rfl,F,H.out,Fp.refl _ _⟩
  ·have hw:=takeP_wf H.out.1 (k:Int) (b:Int) n
   rw[take_yes hf ht] at hw ⊢
   have PUT:=Kept.mk (hput (s.v k b - n) hw)
   clear hf hput hw
   generalize s.v k b=x at *
   go_enter Tryz.func123,Tryz.ntmps123
   go_wp2_with (go_at_call 137;refine P.out.mono ?_;rintro e w' ⟨rfl,rfl⟩)
   go_ret
   exact⟨rfl,F,PUT.out.1,PUT.out.2⟩
end
section
variable {w : World} {F : List Nat} {p : Nat} {s : PS}
set_option maxHeartbeats 1000000 in
theorem move_any (i j a n:Int) (h:Pc w F p s):Calls Tryz.prog 119 #[.pointer (some ⟨p,0,none⟩),.int .i64 i,.int .i64 j,.int .i64 a,.int .i64 n] w (StepPost (fun w' F' s'=>Pc w' F' p s') w F (moveP s i j a n)):=by
 have P:=Kept.mk (fits_any h i a n)
 have Q:=Kept.mk (party_any h j)
 have K:=Kept.mk (take_any i a n h)
 have H:=Kept.mk h
 clear h
 cases hf:fitB s i a n with
 | false =>
  rw[hf] at P
  rw[move_no (.inl hf)]
  clear hf
  go_enter Tryz.func119,Tryz.ntmps119
  go_wp2_with (first|(go_at_call 137;refine P.out.mono ?_;rintro e w' ⟨rfl,rfl⟩)|(go_at_call 138;refine Q.out.mono ?_;rintro e w' ⟨rfl,rfl⟩))
  go_ret
  exact⟨rfl,F,H.out,Fp.refl _ _⟩
 | true =>
  rw[hf] at P
  cases hj:isP s j with
  | false =>
   rw[hj] at Q
   rw[move_no (.inr hj)]
   clear hf hj
   go_enter Tryz.func119,Tryz.ntmps119
   go_wp2_with (first|(go_at_call 137;refine P.out.mono ?_;rintro e w' ⟨rfl,rfl⟩)|(go_at_call 138;refine Q.out.mono ?_;rintro e w' ⟨rfl,rfl⟩))
   go_ret
   exact⟨rfl,F,H.out,Fp.refl _ _⟩
  | true =>
   rw[hj] at Q
   by_cases hij:i=j
   ·subst hij
    rw[move_same hf hj]
    clear hf hj
    go_enter Tryz.func119,Tryz.ntmps119
    go_wp2_with (first|(go_at_call 137;refine P.out.mono ?_;rintro e w' ⟨rfl,rfl⟩)|(go_at_call 138;refine Q.out.mono ?_;rintro e w' ⟨rfl,rfl⟩))
    go_ret
    exact⟨rfl,F,H.out,Fp.refl _ _⟩
   ·obtain⟨⟨k,rfl,hk⟩,⟨b,rfl,hb⟩,n0,n1⟩:=fitB_iff.1 hf
    obtain⟨q,rfl,hq⟩:=isP_nat hj
    by_cases ht:s.v k b < n
    ·rw[move_less hf hj hij ht]
     rw[take_less hf ht] at K
     clear hf hj ht
     go_enter Tryz.func119,Tryz.ntmps119
     go_wp2_with (first|(go_at_call 137;refine P.out.mono ?_;rintro e w' ⟨rfl,rfl⟩)|(go_at_call 138;refine Q.out.mono ?_;rintro e w' ⟨rfl,rfl⟩)|(go_at_call 123;refine K.out.mono ?_;rintro e w' ⟨rfl,F',h1,h2⟩))
     go_ret
     exact⟨rfl,F',h1,h2⟩
    ·have hw:=moveP_wf H.out.1 (k:Int) (q:Int) (b:Int) n
     rw[move_yes hf hj hij ht] at hw ⊢
     rw[take_yes hf ht] at K
     have hv:=H.out.1.le hq hb
     have hs:s.v q b+n≤4611686018427387904:=by
      have:=two_tot (v:=s.v) (a:=b) hk hq (by omega) (fun j hj=>H.out.1.pos j b hj hb)
      have:=H.out.1.sum b hb
      omega
     clear hf hj ht
     go_enter Tryz.func119,Tryz.ntmps119
     go_wp2_with (first|(go_at_call 137;refine P.out.mono ?_;rintro e w' ⟨rfl,rfl⟩)|(go_at_call 138;refine Q.out.mono ?_;rintro e w' ⟨rfl,rfl⟩))
     refine K.out.mono ?_
     rintro e w2 ⟨rfl,F2,h1,h2⟩
     obtain⟨g,c,R,C,x1,x2,x3,x4,hput⟩:=h1.at_ (i:=q) (a:=b) hq hb
     rw[put_v,upd_other _ _ _ _ (by omega)] at x3
     have PUT:=Kept.mk (hput (s.v q b+n) hw)
     have FP:=Kept.mk h2
     rw[put_na] at x1
     rw[put_np] at x2
     obtain⟨x,hx⟩:∃ x,s.v q b=x:=⟨_,rfl⟩
     rw[hx] at x3 hv hs
     have HX:=Kept.mk hx
     clear hput hw h1 h2 P Q K H hx
     go_wp2
     go_ret
     have h1:=PUT.out
     rw[HX.out] at h1
     exact⟨rfl,F2,by show Pc _ _ _ (put _ q b (s.v q b+n));rw[HX.out];exact h1.1,FP.out.trans h1.2⟩
end
end Go.Proofs.YtchcgoabogcabaaGreat.Purse
namespace Go.Proofs.YtchcgoabogcabaaGreat.Sha
open Go.RowKit
theorem slice_l_at (g o n c l:Nat) (h1:l≤n) (hl:l < c) (li:Int) (e1:li=l) (w':World) :
  (Instr.slice 26 (.slice (some ⟨g,o,none⟩) n c) (some (.int .i64 li)) none none).run Tryz.prog w'=.ok (.slice (some ⟨g,o+l,none⟩) (n - l) (c - l)) w':=by
 subst e1
 rw[run_slice_l w' 26 (some ⟨g,o,none⟩) n c und_u8 .i64 l (by omega) (by omega),size_u8]
 have hcl:¬ c=l:=by omega
 have ea:(⟨g,o,none⟩:Addr).add l=⟨g,o+l,none⟩:=by cases l<;>simp[Addr.add]
 simp[Result.andThen,sliced,hcl,ea]
theorem make_big (w:World) (n:Nat) (hn:n≤16777216):∃ w',(Instr.makeSlice 26 (.int .i64 (n:Int)) (.int .i64 (n:Int))).run Tryz.prog w=.ok (.slice (some ⟨w.heap.size,0,none⟩) n n) w'∧Blk w' w.heap.size 5 (arr .u8 (List.replicate n 0))∧Below w.heap.size w w':=by
 obtain⟨iu,hi,hz0,hz1,hz2⟩:=info_parts info_u8
 obtain⟨w',hm,own,gr⟩:=run_makeSlice_full (P:=Tryz.prog) w w.heap.size 26 5 iu _ 1 Tryz.underlying26 hi hz0 hz1 .i64 .i64 n (by omega) (by rw[hz2];omega) (by unfold maxLen;omega) (Nat.le_refl _)
 refine⟨w',hm,?_,⟨gr.os,gr.tape,gr.output,gr.size,fun k hk=>gr.block k hk (by simp)⟩⟩
 have e:(madeCells (Value.int .u8 0).cells (n * 1)).toList=ints .u8 (List.replicate n 0):=by
  rw[show (Value.int .u8 0).cells=#[.int .u8 0] from rfl,toList_madeCells_one,Nat.mul_one]
  simp[ints]
 rw[e] at own
 rcases own.2 with⟨h0,-⟩|⟨g,cap,cur,hv,-,hh,h1,-,hs,ht⟩
 ·cases h0
 ·have hv2:w.heap.size=g∧n=cap:=by
   have:=hv
   simp only[Value.slice.injEq,Option.some.injEq,Addr.mk.injEq] at this
   omega
  obtain⟨hg,rfl⟩:=hv2
  rw[hg]
  have:cur=arr .u8 (List.replicate n 0):=by
   apply Array.toList_inj.1
   rw[List.take_of_length_le (by simp;omega)] at ht
   rw[ht]
   rfl
  rw[← this]
  exact hh
end Go.Proofs.YtchcgoabogcabaaGreat.Sha
