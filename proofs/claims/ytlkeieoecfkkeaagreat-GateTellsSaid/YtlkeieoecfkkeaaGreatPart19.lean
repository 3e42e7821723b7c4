/-
  Parts laid together: Bools DiskPost DiskMem DiskBase DiskAt DiskWrite DiskClear DiskSync DiskLen DiskRead DiskNew.
-/
import Derived.Test.YtlkeieoecfkkeaaGreatPart8
import Derived.Deep.Grids
import Derived.ChangeSame
import Derived.Test.YtlkeieoecfkkeaaGreatPart3
import Derived.Test.YtlkeieoecfkkeaaGreatPart9
import Derived.Test.YtlkeieoecfkkeaaGreatPart18
import Derived.Laws.LoneSync
import Derived.Deep.MidRow
import Derived.StillTailTactics
import Derived.Laws.Cover3
namespace Go.Proofs.YtlkeieoecfkkeaaGreat.Sha
open Go.RowKit Go.ChangeShapes Go.WideShapes Go.Deep
def Rb (w:World) (A:Option Addr) (n:Nat) (bs:List Bool):Prop :=
 bs.length=n∧(n=0∨∃ b o,A=some ⟨b,o,none⟩∧∀ i,i < n→w.cell? ⟨b,o+i,none⟩=some (.bool (bs.getD i false)))
theorem Rb.bar {w w':World}{A:Option Addr}{n:Nat}{xs:List Bool}{l:List Nat}(r:Rb w A n xs) (b:Bar l w w') (hl:∀ x∈l,w.heap.size≤x∨∀ o,A≠some ⟨x,o,none⟩):Rb w' A n xs:=by
 obtain⟨h1,h3⟩:=r
 refine⟨h1,h3.imp id ?_⟩
 rintro ⟨bb,o,rfl,hc⟩
 refine⟨bb,o,rfl,fun i hi=>?_⟩
 have hlt:bb < w.heap.size:=World.block_lt_of_cell? _ _ (hc i hi)
 rw[← hc i hi]
 refine World.cell?_of_block (w:=w) (b.block bb hlt (fun hm=>?_))
 rcases hl bb hm with h|h
 ·omega
 ·exact h o rfl
theorem Rb.below {w w':World}{A:Option Addr}{n:Nat}{xs:List Bool}(r:Rb w A n xs) (b:Below w.heap.size w w'):Rb w' A n xs:=r.bar (l:=[]) (barOf b []) (by simp)
theorem Rb.far {w w':World}{A:Option Addr}{n:Nat}{xs:List Bool}{F:List Nat}(r:Rb w A n xs) (b:Bar F w w') (h:Off A n F):Rb w' A n xs:=by
 rcases h with rfl|⟨g,o,rfl,hg⟩
 ·exact⟨r.1,.inl rfl⟩
 ·exact r.bar b (fun x hx=>.inr fun o' ho=>by injection ho with ho;injection ho with ho;exact hg (ho▸hx))
theorem Rb.off {w:World}{A:Option Addr}{n:Nat}{xs:List Bool}{F:List Nat}(r:Rb w A n xs) (h:∀ k∈F,w.heap.size≤k):Off A n F:=by
 rcases r.2 with h0|⟨b,o,rfl,hc⟩
 ·exact .inl h0
 ·by_cases h0:n=0
  ·exact .inl h0
  ·refine .inr ⟨b,o,rfl,fun hb=>?_⟩
   have:=World.block_lt_of_cell? _ _ (hc 0 (by omega))
   have:=h b hb
   simp at *
   omega
theorem Rb.nil_ {w:World}{A:Option Addr}:Rb w A 0 []:=⟨rfl,.inl rfl⟩
section
variable {H : Type} {enc : TypeId × Value → H} {P : Program} {w : World} {base : Nat} {held : Bool}
end
end Go.Proofs.YtlkeieoecfkkeaaGreat.Sha
namespace Go.Proofs.YtlkeieoecfkkeaaGreat.Disk
open Go.RowKit Go.Proofs.YtlkeieoecfkkeaaGreat.Sha
def CNewPost (Dk:World→List Nat→Nat→Nat→DS→Prop) (w:World) (n:Nat) (e:Ending) (w':World):Prop:=∃ d F,e=.returned (.tuple #[.pointer (some ⟨d,0,none⟩),.int .i64 0])∧Dk w' F d n (newD n)∧Fp [] F w w'
def StepPost (D:World→List Nat→DS→Prop) (w:World) (F:List Nat) (r:Int × DS) (e:Ending) (w':World):Prop:=e=.returned (.int .i64 r.1)∧∃ F',D w' F' r.2∧Fp F F' w w'
theorem blk_setCells {g:Nat}{t:TypeId}:∀ (vs:List Value) (o:Nat) (w:World) (cs:Array Value),Blk w g t cs →
    ∃ cs',Blk (w.setCells g o vs) g t cs'∧cs'.size=cs.size∧∀ k,k < cs.size→cs'[k]?=if o≤k∧k < o+vs.length then vs[k - o]? else cs[k]?
  | [],o,w,cs,h=>⟨cs,h,rfl,fun k _=>by rw[if_neg (by simp)]⟩
  | v :: r,o,w,cs,h=>by
    obtain⟨cs',h1,h2,h3⟩:=blk_setCells r (o+1) _ _ (h.set_ o v)
    refine⟨cs',h1,by simpa using h2,fun k hk=>?_⟩
    rw[h3 k (by simpa using hk),Array.getElem?_setIfInBounds]
    by_cases ho:o=k
    · subst ho
      rw[if_neg (by omega),if_pos rfl,if_pos hk,if_pos (show o≤o∧o < o+(v :: r).length from⟨Nat.le_refl _,by simp⟩),Nat.sub_self]
      rfl
    · by_cases hr:o+1≤k∧k < o+1+r.length
      · rw[if_pos hr,if_pos (by simp only[List.length_cons];omega),show k - o=(k - (o+1))+1 by omega,List.getElem?_cons_succ]
      · rw[if_neg hr,if_neg ho,if_neg (by simp only[List.length_cons];omega)]
theorem bar_setCells (g:Nat):∀ (vs:List Value) (o:Nat) (w:World),Bar [g] w (w.setCells g o vs)
 | [],_,w=>Bar.refl _ w
 | v :: r,o,w=>((Bar.refl [g] w).setCell (p:=⟨g,o,none⟩) (by simp) v).trans (bar_setCells g r (o+1) _) (by simp)
def Sx (w:World) (g:Nat) (l:List (List Int)):Prop:=∃ cs,Blk w g 263 cs∧∀ i,i < l.length→∀ j,j < 64→cs[i * 64+j]?=some (.int .u8 (at_ (rowOf l i) j))
theorem Sx.lt {w:World}{g:Nat}{l:List (List Int)}(h:Sx w g l):g < w.heap.size:=by
 obtain⟨cs,h1,-⟩:=h
 exact h1.lt
theorem Sx.bar {w w':World}{g:Nat}{l:List (List Int)}{G:List Nat}(h:Sx w g l) (b:Bar G w w') (hg:g∉G):Sx w' g l:=by
 obtain⟨cs,h1,h2⟩:=h
 exact⟨cs,h1.bar b hg,h2⟩
theorem Sx.range {w:World}{g:Nat}{l:List (List Int)}(h:Sx w g l) (i:Nat) (hi:i < l.length) (h64:(rowOf l i).length=64):w.rangeAt g (i * 64) (ints .u8 (rowOf l i)):=by
 obtain⟨cs,h1,h2⟩:=h
 intro j v hj
 have hjl:j < (rowOf l i).length:=by have:=(List.getElem?_eq_some_iff.1 hj).1;rwa [ints_len] at this
 rw[Sha.ints_at _ _ _ hjl] at hj
 rw[h1.cell,h2 i hi j (by omega),hj]
theorem info_sec:(Tryz.prog.info? 263).map (·.size)=some 64:=by kernel_rfl
theorem Sx.load {w:World}{g:Nat}{l:List (List Int)}(h:Sx w g l) (i:Nat) (hi:i < l.length) (h64:(rowOf l i).length=64):(Instr.loadAt 263 (.pointer (some ⟨g,i * 64,none⟩))).run Tryz.prog w=.ok (.agg (arr .u8 (rowOf l i))) w :=
 run_loadAt_mid w g (i * 64) 263 (ints .u8 (rowOf l i)) _ (h.range i hi h64) Tryz.underlying263 rfl (by rw[info_sec,ints_len,h64])
theorem Sx.store {w:World}{g:Nat}{l:List (List Int)}(h:Sx w g l) (i:Nat) (hi:i < l.length) (x:List Int) (h64:x.length=64):∃ w',(Instr.storeAt 263 (.pointer (some ⟨g,i * 64,none⟩)) (.agg (arr .u8 x))).run Tryz.prog w=.ok () w'∧Sx w' g (l.set i x)∧Bar [g] w w':=by
 obtain⟨cs,h1,h2⟩:=h
 have hsz:(arr .u8 x).size=64:=by rw[arr_size,h64]
 refine⟨_,run_storeAt_mid w g (i * 64) 263 (arr .u8 x) (fun j hj=>⟨?_,h1.frozen _⟩) (by rw[info_sec,hsz]) (all_oneCell_toArray (ints_one _ _)),?_,bar_setCells _ _ _ _⟩
 ·rw[h1.cell,h2 i hi j (by omega)];rfl
 ·obtain⟨cs',k1,k2,k3⟩:=blk_setCells (arr .u8 x).toList (i * 64) w cs h1
  have hl:(arr .u8 x).toList=ints .u8 x:=rfl
  refine⟨cs',k1,fun i' hi' j hj=>?_⟩
  rw[List.length_set] at hi'
  have hc:=h2 i' hi' j hj
  rw[k3 _ (Array.getElem?_eq_some_iff.1 hc).1,rowOf_set _ _ _ _ hi',hl,ints_len,h64]
  by_cases hii:i=i'
  ·subst hii
   rw[if_pos (by omega),if_pos rfl,show i * 64+j - i * 64=j by omega,Sha.ints_at _ _ _ (by omega)]
  ·rw[if_neg (by omega),if_neg hii,hc]
def u01:Bool→Int
 | true=>1
 | false=>0
theorem u01_ne (b:Bool):(u01 b != 0)=b:=by cases b<;>rfl
def Dk (w:World) (F:List Nat) (d n:Nat) (s:DS):Prop:=WF n s∧∃ gw cw gm f,Blk w d 101 #[.slice (some ⟨gw,0,none⟩) n cw,.map (some gm),.int .i64 f,.int .u32 (u01 s.down)] ∧
 Sx w gw s.now∧Mp w gm s.pend s.last∧(if f < -1 then -1 else f)=s.fuse∧F=d :: gw :: gm :: []
theorem Dk.lts {w:World}{F:List Nat}{d n:Nat}{s:DS}(h:Dk w F d n s):∀ k∈F,k < w.heap.size:=by
 obtain⟨-,gw,cw,gm,f,h1,h2,h3,-,rfl⟩:=h
 intro k hk
 simp only[List.mem_cons,List.not_mem_nil,or_false] at hk
 rcases hk with rfl|rfl|rfl
 ·exact h1.lt
 ·exact h2.lt
 ·exact h3.lt
theorem Dk.keep {w w':World}{F G:List Nat}{d n:Nat}{s:DS}(h:Dk w F d n s) (b:Bar G w w') (j:Disj F G):Dk w' F d n s:=by
 obtain⟨h0,gw,cw,gm,f,h1,h2,h3,h4,rfl⟩:=h
 exact⟨h0,gw,cw,gm,f,h1.bar b (j d (by simp)),h2.bar b (j gw (by simp)),h3.bar b (j gm (by simp)),h4,rfl⟩
theorem dk_0 (a b c e:Value):(#[a,b,c,e]:Array Value)[0]?=some a:=rfl
theorem dk_3 (a b c e:Value):(#[a,b,c,e]:Array Value)[3]?=some e:=rfl
def hasB (n:Nat) (i:Int):Bool:=decide (0≤i∧i < n)
theorem Dk.turn {w w':World}{F:List Nat}{d n:Nat}{s t:DS}{gw cw gm:Nat}{f:Int}(hF:F=d :: gw :: gm :: []) (h1:∃ cs,Blk w d 101 cs) (h2:Sx w gw s.now) (h3:Mp w gm s.pend s.last) (hw:WF n t)
  (e1:t.now=s.now) (e2:t.pend=s.pend) (e3:t.last=s.last) (k:Blk w' d 101 #[.slice (some ⟨gw,0,none⟩) n cw,.map (some gm),.int .i64 f,.int .u32 (u01 t.down)]) (hf:(if f < -1 then -1 else f)=t.fuse) (b:Bar [d] w w'):Dk w' F d n t∧Fp F F w w':=by
 subst hF
 obtain⟨cs,h1⟩:=h1
 have n1:gw≠d:=by obtain⟨cs',k',-⟩:=h2;exact blk_ne k' h1 (by decide)
 have n2:gm≠d:=h3.ne h1
 refine⟨⟨hw,gw,cw,gm,f,k,by rw[e1];exact h2.bar b (by simpa using n1),by rw[e2,e3];exact h3.bar b (by simpa using n2),hf,rfl⟩,b.mono (by simp),fun k hk=>.inl hk⟩
theorem bload_any (a:Addr) (d:Bool) (w:World) (hc:w.cell? a=some (.int .u32 (u01 d))) :
  Calls Tryz.prog 185 #[.pointer (some a)] w fun e w'=>e=.returned (.bool d)∧w=w':=by
 have hl:=run_call_load (P:=Tryz.prog) Tryz.func215 (by kernel_rfl) (by kernel_rfl) (by kernel_rfl) .u32 (by kernel_rfl) hc
 have hd:=u01_ne d
 generalize u01 d=z at *
 go_enter Tryz.func185,Tryz.ntmps185
 go_wp2
 go_ret
 exact⟨rfl,rfl⟩
theorem cdown_any {w:World}{F:List Nat}{d n:Nat}{s:DS}(h:Dk w F d n s):Calls Tryz.prog 153 #[.pointer (some ⟨d,0,none⟩)] w fun e w'=>e=.returned (.bool s.down)∧w=w':=by
 obtain⟨h0,gw,cw,gm,f,h1,h2,h3,h4,rfl⟩:=h
 have c3:=(h1.cell 3).trans (dk_3 _ _ _ _)
 have c:=Kept.mk (bload_any ⟨d,3,none⟩ s.down w c3)
 clear h0 h1 h2 h3 h4
 go_enter Tryz.func153,Tryz.ntmps153
 go_wp2_with fail
 refine c.out.mono ?_
 rintro e w' ⟨rfl,rfl⟩
 go_wp2
 go_ret
 exact⟨rfl,rfl⟩
theorem chas_any {w:World}{F:List Nat}{d n:Nat}{s:DS}(i:Int) (h:Dk w F d n s):Calls Tryz.prog 154 #[.pointer (some ⟨d,0,none⟩),.int .i64 i] w fun e w'=>e=.returned (.bool (hasB n i))∧w=w':=by
 obtain⟨h0,gw,cw,gm,f,h1,h2,h3,h4,rfl⟩:=h
 have c0:=(h1.cell 0).trans (dk_0 _ _ _ _)
 clear h0 h1 h2 h3 h4
 by_cases hi0:0≤i
 ·by_cases hin:i < n
  ·rw[show hasB n i=true by simp[hasB,hi0,hin]]
   go_enter Tryz.func154,Tryz.ntmps154
   go_wp2
   go_ret
   exact⟨rfl,rfl⟩
  ·rw[show hasB n i=false by simp[hasB,hin]]
   go_enter Tryz.func154,Tryz.ntmps154
   go_wp2
   go_ret
   exact⟨rfl,rfl⟩
 ·rw[show hasB n i=false by simp[hasB,hi0]]
  go_enter Tryz.func154,Tryz.ntmps154
  go_wp2
  go_ret
  exact⟨rfl,rfl⟩
theorem wpList_loadAt {P:Program}{ops:Array Oper}{rest:List Oper}{o:Oper}{a:Act}{w:World}{Q:Exit→Act→World→Prop}(hgd:o.guard=none) (ty:TypeId) (x:Operand) (ho:o.op=.load ty x) (p v:Value) (hx:a.eval x=p)
  (hr:(Instr.loadAt ty p).run P w=.ok v w) (h:wpList P ops Q rest (a.put o.dst v) w):wpList P ops Q (o :: rest) a w :=
 wpList_plain hgd fun _ hK=>by
  unfold Oper.wp execOp
  simp only[ho,hx,Sem.run_bind,hr,Result.andThen_ok]
  exact hK _ _ h
theorem hasB_no {n:Nat}{s:DS}(h:WF n s) (i:Int):hasB n i=!(decide (noSector s i)):=by
 have hn:=h.now
 by_cases h1:noSector s i
 ·rw[decide_eq_true h1]
  unfold noSector at h1
  simp only[hasB,Bool.not_true,decide_eq_false_iff_not]
  omega
 ·rw[decide_eq_false h1]
  unfold noSector at h1
  simp only[hasB,Bool.not_false,decide_eq_true_eq]
  omega
theorem idx_of {n:Nat}{s:DS}(h:WF n s) {i:Int}(h1:¬ noSector s i):∃ j:Nat,i=j∧j < n:=by
 have hn:=h.now
 unfold noSector at h1
 exact⟨i.toNat,by omega,by omega⟩
def pendD (s:DS) (i:Nat):DS:={ s with pend:=ins i s.pend }
theorem Dk.put {w w':World}{F:List Nat}{d n:Nat}{s:DS}{gw cw gm:Nat}{f:Int}{j:Nat}{xs:List Int}(hF:F=d :: gw :: gm :: []) (h1:Blk w d 101 #[.slice (some ⟨gw,0,none⟩) n cw,.map (some gm),.int .i64 f,.int .u32 (u01 s.down)]) (h3:Mp w gm (ins j s.pend) s.last) (h2:Sx w gw s.now)
  (hw:WF n (putD s j xs)) (k:Sx w' gw (s.now.set j xs)) (hf:(if f < -1 then -1 else f)=s.fuse) (b:Bar [gw] w w'):Dk w' F d n (putD s j xs)∧Fp F F w w':=by
 subst hF
 have n1:gw≠d:=by obtain⟨cs',k',-⟩:=h2;exact blk_ne k' h1 (by decide)
 have n2:gm≠gw:=by obtain⟨cs',k',-⟩:=h2;exact h3.ne k'
 exact⟨⟨hw,gw,cw,gm,f,h1.bar b (by simpa using n1.symm),k,h3.bar b (by simpa using n2),hf,rfl⟩,b.mono (by simp),fun k hk=>.inl hk⟩
theorem Dk.more {w w':World}{F:List Nat}{d n:Nat}{s:DS}{gw cw gm:Nat}{f:Int}{j:Nat}(hF:F=d :: gw :: gm :: []) (h1:Blk w d 101 #[.slice (some ⟨gw,0,none⟩) n cw,.map (some gm),.int .i64 f,.int .u32 (u01 s.down)]) (h2:Sx w gw s.now) (h3:Mp w gm s.pend s.last)
  (hw:WF n (pendD s j)) (k:Mp w' gm (ins j s.pend) s.last) (hf:(if f < -1 then -1 else f)=s.fuse) (b:Bar [gm] w w'):Dk w' F d n (pendD s j)∧Fp F F w w':=by
 subst hF
 have n1:gm≠d:=h3.ne h1
 have n2:gm≠gw:=by obtain⟨cs',k',-⟩:=h2;exact h3.ne k'
 exact⟨⟨hw,gw,cw,gm,f,h1.bar b (by simpa using n1.symm),h2.bar b (by simpa using n2.symm),k,hf,rfl⟩,b.mono (by simp),fun k hk=>.inl hk⟩
theorem Dk.drew {w:World}{F:List Nat}{d n:Nat}{s:DS}(h:Dk w F d n s):Dk w.drew F d n s:=h.keep (G:=[]) (Bar.refl [] w).drew (fun _ _=>by simp)
theorem Dk.clear {w w':World}{F:List Nat}{d n:Nat}{s t:DS}{gw cw gm:Nat}{f:Int}(hF:F=d :: gw :: gm :: []) (h1:Blk w d 101 #[.slice (some ⟨gw,0,none⟩) n cw,.map (some gm),.int .i64 f,.int .u32 (u01 t.down)]) (h2:Sx w gw t.now) (h3:Mp w gm s.pend s.last) (hw:WF n t)
  (e2:t.pend=[]) (k:Mp w' gm [] t.last) (hf:(if f < -1 then -1 else f)=t.fuse) (b:Bar [gm] w w'):Dk w' F d n t∧Fp F F w w':=by
 subst hF
 have n1:gm≠d:=h3.ne h1
 have n2:gm≠gw:=by obtain⟨cs',k',-⟩:=h2;exact h3.ne k'
 refine⟨⟨hw,gw,cw,gm,f,h1.bar b (by simpa using n1.symm),h2.bar b (by simpa using n2.symm),by rw[e2];exact k,hf,rfl⟩,b.mono (by simp),fun k hk=>.inl hk⟩
theorem clen_any {w:World}{F:List Nat}{d n:Nat}{s:DS}(h:Dk w F d n s):Calls Tryz.prog 45 #[.pointer (some ⟨d,0,none⟩)] w fun e w'=>e=.returned (.int .i64 (n:Nat))∧w=w':=by
 obtain⟨h0,gw,cw,gm,f,h1,h2,h3,h4,rfl⟩:=h
 have c0:=(h1.cell 0).trans (dk_0 _ _ _ _)
 clear h0 h1 h2 h3 h4
 go_enter Tryz.func45,Tryz.ntmps45
 go_wp2
 go_ret
 exact⟨rfl,rfl⟩
def CReadPost (w:World) (r:Int × List Int) (e:Ending) (w':World):Prop:=∃ A c,e=.returned (.tuple #[.slice A r.2.length c,.int .i64 r.1])∧Rd w' A r.2.length r.2∧(r.2.length=0∨∃ g o,A=some ⟨g,o,none⟩∧w.heap.size≤g∧∀ i,i < r.2.length→w'.frozen? ⟨g,o+i,none⟩=false)∧r.2.length≤c∧c≤9223372036854775807∧Below w.heap.size w w'
set_option maxRecDepth 100000 in
set_option maxHeartbeats 1000000 in
theorem cread_b {w:World}{F:List Nat}{d n:Nat}{s:DS}(i:Int) (h:Dk w F d n s):Calls Tryz.prog 119 #[.pointer (some ⟨d,0,none⟩),.int .i64 i] w (CReadPost w (readD s i)):=by
 have C1:=Kept.mk (cdown_any h)
 have C2:=Kept.mk (chas_any i h)
 have D:=Kept.mk h
 have hno:∀ c:Int,CReadPost w (c,[]) (.returned (.tuple #[.slice none 0 0,.int .i64 c])) w:=fun c=>⟨none,0,rfl,Rd.nil_,.inl rfl,by simp,by omega,Below.refl _ _⟩
 have NO:=Kept.mk hno
 have hwf:=Kept.mk h.1
 clear h hno
 cases hd:s.down with
 | true =>
  rw[hd] at C1
  have e1:readD s i=(13,[]):=by unfold readD;rw[if_pos hd]
  rw[e1]
  clear C2 e1 hd
  go_enter Tryz.func119,Tryz.ntmps119
  go_wp2_with fail
  refine C1.out.mono ?_
  rintro e w' ⟨rfl,rfl⟩
  go_wp2
  go_ret2
  exact NO.out 13
 | false =>
  rw[hd] at C1
  rw[hasB_no hwf.out] at C2
  by_cases hs:noSector s i
  ·have e1:readD s i=(1,[]):=by unfold readD;rw[if_neg (by rw[hd];decide),if_pos hs]
   rw[e1]
   rw[decide_eq_true hs] at C2
   clear e1 hd hs
   go_enter Tryz.func119,Tryz.ntmps119
   go_wp2_with fail
   refine C1.out.mono ?_
   rintro e w' ⟨rfl,rfl⟩
   go_wp2_with fail
   refine C2.out.mono ?_
   rintro e w' ⟨rfl,rfl⟩
   go_wp2
   go_ret2
   exact NO.out 1
  ·have e1:readD s i=(0,rowOf s.now i.toNat):=by unfold readD;rw[if_neg (by rw[hd];decide),if_neg hs]
   rw[e1]
   rw[decide_eq_false hs] at C2
   obtain⟨j,rfl,hj⟩:=idx_of hwf.out hs
   have hj':(j:Int) < n:=by omega
   rw[Int.toNat_natCast]
   have hsec:=(hwf.out.secs j hj).1
   have L64:=Kept.mk hsec.1
   have LB:=Kept.mk hsec.2
   obtain⟨h0,gw,cw,gm,f,h1,h2,h3,h4,hF⟩:=D.out
   have c0:=(h1.cell 0).trans (dk_0 _ _ _ _)
   have hl:=h2.load j (by rw[h0.now];exact hj) hsec.1
   clear e1 hd hs h0 h1 h2 h3 h4 hF hsec NO
   generalize rowOf s.now j=x at *
   go_enter Tryz.func119,Tryz.ntmps119
   go_wp2_with fail
   refine C1.out.mono ?_
   rintro e w' ⟨rfl,rfl⟩
   go_wp2_with fail
   refine C2.out.mono ?_
   rintro e w' ⟨rfl,rfl⟩
   go_upto_region 6 with(first|((with_reducible refine sel 19 ?_);refine wpList_loadAt rfl 263 (.tmp 18) rfl _ _ rfl hl ?_)|((with_reducible refine selS 263 (.tmp 6) (.tmp 19) ?_);refine wpList_store_row rfl 263 (.tmp 6) (.tmp 19) rfl w.heap.size (arr .u8 x) rfl rfl 263 _ (Blk.new _ _ _) (by rw[arr_size,L64.out];kernel_rfl) (by rw[arr_size,L64.out];rfl) (all_oneCell_toArray (ints_one _ _)) ?_;refine wp_gen (fun w'=>Kept (Blk w' w.heap.size 263 (arr .u8 x))∧Kept (Below w.heap.size w w')) ⟨⟨?_⟩,⟨?_⟩⟩ (fun w1 hw1=>?_)))
   case refine_1=>exact(Blk.new w _ _).row _
   case refine_2=>exact below_setRow ((Below.refl _ _).alloc (Nat.le_refl _) _) (Nat.le_refl _) _
   obtain⟨k1,b1⟩:=hw1
   go_wp2
   go_ret2
   refine⟨some ⟨w.heap.size,0,none⟩,64,by simp only[L64.out];rfl,?_,.inr ⟨_,0,rfl,Nat.le_refl _,fun k _=>?_⟩,by simp only[L64.out];omega,by omega,b1.out⟩
   ·simp only[L64.out];exact Rd.blk k1.out LB.out L64.out
   ·exact k1.out.frozen _
theorem at_nought (m k:Nat):at_ (List.replicate m 0) k=0:=by
 by_cases h:k < m<;>simp[at_,List.getD_eq_getElem?_getD,h]
theorem made_sec (w:World) (n:Nat) (h1:1≤n) (h2:n≤8192):∃ w',(Instr.makeSlice 98 (.int .i64 (n:Int)) (.int .i64 (n:Int))).run Tryz.prog w=.ok (.slice (some ⟨w.heap.size,0,none⟩) n n) w'∧Sx w' w.heap.size (List.replicate n zeros64)∧Below w.heap.size w w':=by
 have hi0:(Tryz.prog.info? 263).map (fun i=>(i.zero,i.size,i.bytes))=some (some (.agg (arr .u8 zeros64)),64,64):=by kernel_rfl
 obtain⟨iu,hi,hz0,hz1,hz2⟩:=info_parts hi0
 obtain⟨w',hm,own,gr⟩:=run_makeSlice_full (P:=Tryz.prog) w w.heap.size 98 263 iu _ 64 Tryz.underlying98 hi hz0 hz1 .i64 .i64 n (by omega) (by rw[hz2];omega) (by unfold maxLen;omega) (Nat.le_refl _)
 refine⟨w',hm,?_,⟨gr.os,gr.tape,gr.output,gr.size,fun k hk=>gr.block k hk (by simp)⟩⟩
 rcases own.2 with⟨h0,-⟩|⟨g,cap,cur,hv,-,hh,h3,-,hs,ht⟩
 ·cases h0
 ·have hv2:w.heap.size=g∧n=cap:=by
   have:=hv
   simp only[Value.slice.injEq,Option.some.injEq,Addr.mk.injEq] at this
   omega
  obtain⟨hg,rfl⟩:=hv2
  rw[hg]
  refine⟨cur,hh,fun i hi' j hj=>?_⟩
  rw[List.length_replicate] at hi'
  have hk:i * 64+j < n * 64:=by omega
  have e1:(cur.toList.take (n * 64))[i * 64+j]?=some (.int .u8 0):=by
   rw[ht]
   have hsz:(Value.agg (arr .u8 zeros64)).cells=arr .u8 zeros64:=rfl
   have hs64:(arr .u8 zeros64).size=64:=rfl
   rw[hsz]
   unfold madeCells
   rw[Array.getElem?_toList,Array.getElem?_map,Array.getElem?_range]
   rw[if_pos hk]
   simp only[Option.map_some,hs64]
   have h6:(i * 64+j) % 64 < 64:=Nat.mod_lt _ (by omega)
   have:=arr_at .u8 zeros64 ((i * 64+j) % 64) (by simpa [zeros64] using h6)
   rw[getElem!_def,this]
   rw[show at_ zeros64 ((i * 64+j) % 64)=0 from at_nought 64 _]
  rw[List.getElem?_take_of_lt hk,Array.getElem?_toList] at e1
  rw[e1,rowOf_replicate _ _ hi',show at_ zeros64 j=0 from at_nought 64 _]
set_option maxRecDepth 100000 in
set_option maxHeartbeats 400000 in
theorem cnew_ok (w:World) (n:Nat) (h1:1≤n) (h2:n≤8192):Calls Tryz.prog 18 #[.int .i64 n] w (CNewPost Dk w n):=by
 have h1':(1:Int)≤n:=by omega
 have h2':(n:Int)≤8192:=by omega
 obtain⟨w1,hmk,sx,b1⟩:=made_sec w n h1 h2
 obtain⟨G,hG⟩:∃ G,w.heap.size=G:=⟨_,rfl⟩
 have hGl:=sx.lt
 rw[hG] at hmk sx b1 hGl
 obtain⟨M,hM⟩:∃ M,w1.heap.size=M:=⟨_,rfl⟩
 have mp:Mp (w1.alloc (.map #[] 0)) M [] (List.replicate n zeros64):=by rw[← hM];exact mp_new _ _
 have hal:∀ (x:World) (o:Obj),Bar [] x (x.alloc o):=fun x o=>(Bar.refl [] x).alloc o
 have sx2:=sx.bar (hal w1 (.map #[] 0)) (by simp)
 have R:Kept (CNewPost Dk w n (.returned (.tuple #[.pointer (some ⟨M+1,0,none⟩),.int .i64 0])) ((w1.alloc (.map #[] 0)).alloc (.cells #[.slice (some ⟨G,0,none⟩) n n,.map (some M),.int .i64 (-1),.int .u32 0] 101))):=by
  refine⟨M+1,_,rfl,⟨wf_new n h1 h2,G,n,M,-1,Blk.new_at _ _ _ _ (by simp[hM]),sx2.bar (hal _ _) (by simp),mp.bar (hal _ _) (by simp),rfl,rfl⟩,?_,fun k hk=>.inr ?_⟩
  ·exact barOf (by rw[hG];exact(b1.alloc (by omega) _).alloc (by simp;omega) _) []
  ·simp only[List.mem_cons,List.not_mem_nil,or_false] at hk
   rcases hk with rfl|rfl|rfl<;>omega
 clear sx sx2 mp b1 h1 h2
 have HM:=Kept.mk hM
 clear hM hG hGl
 have hmm:(Instr.makeMap 99 none).run Tryz.prog w1=.ok (.map (some w1.heap.size)) (w1.alloc (.map #[] 0)):=run_makeMap _ w1
 go_enter Tryz.func18,Tryz.ntmps18
 go_wp2
 go_ret2
 rw[HM.out]
 exact R.out
end Go.Proofs.YtlkeieoecfkkeaaGreat.Disk
