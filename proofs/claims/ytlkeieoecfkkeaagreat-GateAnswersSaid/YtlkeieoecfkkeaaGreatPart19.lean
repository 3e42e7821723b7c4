/-
  Parts laid together: JMem JournalFace JActSpec.
-/
import Derived.Test.YtlkeieoecfkkeaaGreatPart3
import Derived.Test.YtlkeieoecfkkeaaGreatPart17
import Derived.Test.YtlkeieoecfkkeaaGreatPart14
import Derived.Test.YtlkeieoecfkkeaaGreatPart18
import Derived.Test.YtlkeieoecfkkeaaGreatPart6
namespace Go.Proofs.YtlkeieoecfkkeaaGreat
namespace Journal
open Go.RowKit Sha Disk Go.Proofs.YtlkeieoecfkkeaaGreat.Frame
def jc (t d:Nat) (fr gen:Int) (has:Bool) (A:Option Addr) (m c:Nat) (vr:Value) (room:Int) (dead:Bool):Array Value :=
 #[.pointer (some ⟨t,0,none⟩),.pointer (some ⟨d,0,none⟩),.int .i64 fr,.int .i64 gen,.bool has,.slice A m c,vr,.int .i64 room,.bool dead]
structure COk (n:Nat) (v:JV):Prop where
 half:v.half=0∨v.half=1
 gen:0≤v.gen∧v.gen≤4294967295
 seq:v.seq=(v.recs.length:Int)+1
 pos:v.pos≤n / 2
 recs:v.recs.length≤v.pos
 pict:v.pict.length≤60000
 bods:∀ b∈v.recs,b.length≤60000
theorem COk.dead {n:Nat}{v:JV}(h:COk n v):COk n (Cc v):=⟨h.half,h.gen,h.seq,h.pos,h.recs,h.pict,h.bods⟩
def Cj (w:World) (G:List Nat) (j t d n:Nat) (v:JV):Prop :=
 ∃ A m c vr rm K,Blk w j 187 (jc t d ((v.half * (n / 2):Nat):Int) v.gen v.has A m c vr ((rm:Nat):Int) v.dead)∧m≤c∧c≤9223372036854775807∧Rd w A m v.pict∧(In A m K∧Off A m vr.ownBlock.toList)∧Og w 22 vr v.recs K ∧
  (∀ k∈K,k < w.heap.size)∧j∉K∧G=j :: K∧COk n v∧rm≤n / 2∧(v.dead=false→rm+v.pos=n / 2)
theorem Cj.lts {w:World}{G:List Nat}{j t d n:Nat}{v:JV}(h:Cj w G j t d n v):∀ k∈G,k < w.heap.size:=by
 obtain⟨A,m,c,vr,rm,K,h1,-,-,-,-,-,h7,-,rfl,-⟩:=h
 intro k hk
 rcases List.mem_cons.1 hk with rfl|hk
 ·exact h1.lt
 ·exact h7 k hk
theorem Cj.keep {w w':World}{G K:List Nat}{j t d n:Nat}{v:JV}(h:Cj w G j t d n v) (b:Bar K w w') (q:Disj G K):Cj w' G j t d n v:=by
 obtain⟨A,m,c,vr,rm,K',h1,h2,h3,h4,h5,h6,h7,h8,rfl,h9⟩:=h
 have jk:Disj K' K:=fun k hk=>q k (by simp[hk])
 exact⟨A,m,c,vr,rm,K',h1.bar b (q j (by simp)),h2,h3,h4.far b (h5.1.off jk),h5,h6.keep b jk,fun k hk=>Nat.lt_of_lt_of_le (h7 k hk) b.size,h8,rfl,h9⟩
theorem Cj.ok {w:World}{G:List Nat}{j t d n:Nat}{v:JV}(h:Cj w G j t d n v):COk n v:=by
 obtain⟨A,m,c,vr,rm,K',-,-,-,-,-,-,-,-,-,h,-⟩:=h
 exact h
def layC (s:DS) (dead:Bool) (f:FV) (home rm:Nat):(Int × Int) × DS × Bool :=
 if dead=true∨s.down=true then ((0,13),s,true)
 else if (putF f).1=1 then ((0,12),s,false)
 else if (putF f).1≠0 then ((0,(putF f).1),s,false)
 else if rm < (putF f).2.length / 64 then ((0,12),s,false)
 else if (layJ s home (putF f).2).1=0 then (((rm:Int) - ((putF f).2.length / 64:Nat),0),(layJ s home (putF f).2).2,false)
 else ((0,(layJ s home (putF f).2).1),(layJ s home (putF f).2).2,true)
def kR (w:World) (F:List Nat) (t d j n:Nat) (cs:Bool→Array Value) (r:(Int × Int) × DS × Bool) (e:Ending) (w':World):Prop :=
 e=.returned (.tuple #[.int .i64 r.1.1,.int .i64 r.1.2])∧∃ F',Tab w' t∧Dk w' F' d n r.2.1∧Blk w' j 187 (cs r.2.2)∧Fp (t :: j :: F) (t :: j :: F') w w'∧t∉F'∧j∉F'
def Sd (w:World) (H:List Nat) (t d n:Nat) (s:DS):Prop:=∃ F,Tab w t∧Dk w F d n s∧t∉F∧H=t :: F
section
variable (Jk : World → List Nat → Nat → Nat → Nat → Nat → JV → Prop)
def Sy (w:World) (H:List Nat) (t d j n:Nat) (s:DS) (v:JV):Prop:=∃ F G,Tab w t∧Dk w F d n s∧Jk w G j t d n v∧t∉F∧t∉G∧Disj F G∧H=t :: (F++G)
structure dZ:Prop where
 lts:∀ {w G j t d n v},Jk w G j t d n v→∀ k∈G,k < w.heap.size
 keep:∀ {w w' G K j t d n v},Jk w G j t d n v→Bar K w w'→Disj G K→Jk w' G j t d n v
end
variable {Jk : World → List Nat → Nat → Nat → Nat → Nat → JV → Prop}
theorem Sd.lts {w:World}{H:List Nat}{t d n:Nat}{s:DS}(h:Sd w H t d n s):∀ k∈H,k < w.heap.size:=by
 obtain⟨F,h1,h2,-,rfl⟩:=h
 intro k hk
 rcases List.mem_cons.1 hk with rfl|hk
 ·exact dQ h1
 ·exact h2.lts k hk
theorem Sd.keep {w w':World}{H K:List Nat}{t d n:Nat}{s:DS}(h:Sd w H t d n s) (b:Bar K w w') (j:Disj H K):Sd w' H t d n s:=by
 obtain⟨F,h1,h2,h3,rfl⟩:=h
 exact⟨F,ftab_bar h1 b (j t (by simp)),h2.keep b (fun k hk=>j k (by simp[hk])),h3,rfl⟩
theorem Sy.lts (B:dZ Jk) {w:World}{H:List Nat}{t d j n:Nat}{s:DS}{v:JV}(h:Sy Jk w H t d j n s v):∀ k∈H,k < w.heap.size:=by
 obtain⟨F,G,h1,h2,h3,-,-,-,rfl⟩:=h
 intro k hk
 rcases List.mem_cons.1 hk with rfl|hk
 ·exact dQ h1
 ·rcases List.mem_append.1 hk with hk|hk
  ·exact h2.lts k hk
  ·exact B.lts h3 k hk
theorem Sy.keep (B:dZ Jk) {w w':World}{H K:List Nat}{t d j n:Nat}{s:DS}{v:JV}(h:Sy Jk w H t d j n s v) (b:Bar K w w') (q:Disj H K):Sy Jk w' H t d j n s v:=by
 obtain⟨F,G,h1,h2,h3,h4,h5,h6,rfl⟩:=h
 exact⟨F,G,ftab_bar h1 b (q t (by simp)),h2.keep b (fun k hk=>q k (by simp[hk])),B.keep h3 b (fun k hk=>q k (by simp[hk])),h4,h5,h6,rfl⟩
theorem Sy.below (B:dZ Jk) {w w':World}{H:List Nat}{t d j n:Nat}{s:DS}{v:JV}(h:ae (Sy Jk w H t d j n s v)) (b:Below w.heap.size w w'):ae (Sy Jk w' H t d j n s v):=⟨h.out.keep B (barOf b []) (fun _ _=>by simp)⟩
theorem Sy.sd {w:World}{H:List Nat}{t d j n:Nat}{s:DS}{v:JV}(h:Sy Jk w H t d j n s v):∃ H',Sd w H' t d n s∧∀ k∈H',k∈H:=by
 obtain⟨F,G,h1,h2,-,h4,-,-,rfl⟩:=h
 refine⟨t :: F,⟨F,h1,h2,h4,rfl⟩,fun k hk=>?_⟩
 rcases List.mem_cons.1 hk with e|hk
 ·simp[e]
 ·simp[hk]
def gY (Jk:World→List Nat→Nat→Nat→Nat→Nat→JV→Prop) (w:World) (H:List Nat) (t d n:Nat) (s:DS) (e:Ending) (w':World):Prop:=∃ j H',e=.returned (.pointer (some ⟨j,0,none⟩))∧Sy Jk w' H' t d j n s (openJ s)∧Fp H H' w w'
def qm (Jk:World→List Nat→Nat→Nat→Nat→Nat→JV→Prop) (w:World) (H:List Nat) (t d j n:Nat) (r:Int × DS × JV) (e:Ending) (w':World):Prop:=e=.returned (.int .i64 r.1)∧∃ H',Sy Jk w' H' t d j n r.2.1 r.2.2∧Fp H H' w w'
def uT (w:World) (v:JV) (e:Ending) (w':World):Prop:=∃ A n c,e=.returned (.tuple #[.slice A n c,.bool v.has])∧n≤c∧c≤9223372036854775807∧Rd w' A n v.pict∧Below w.heap.size w w'
def uU (w:World) (v:JV) (e:Ending) (w':World):Prop:=∃ A c,e=.returned (.slice A v.recs.length c)∧v.recs.length≤c∧c≤9223372036854775807∧Rws w' A v.recs.length (rowOf v.recs)∧Below w.heap.size w w'∧∀ (F:List Nat) (W:World),(∀ k∈F,k < w.heap.size)→Bar F w' W→Rws W A v.recs.length (rowOf v.recs)
theorem Jj {n:Nat}{v:JV}(h:COk n v) (hn:n≤8192) (b:List Int):errF (recF v b)=if 60000 < b.length then 3 else 0:=by
 have h1:=h.gen
 have h2:=h.seq
 have h3:=h.recs
 have h4:=h.pos
 unfold errF recF
 simp only
 by_cases hb:60000 < b.length
 ·rw[if_pos hb,if_pos hb]
 ·rw[if_neg hb,if_neg hb,if_pos]
  refine⟨?_,?_,?_⟩<;>(unfold Wire.fits;simp;try omega)
section
variable {s : DS} {dead : Bool} {f : FV} {home rm : Nat}
theorem yl (h:dead=true∨s.down=true):layC s dead f home rm=((0,13),s,true):=by unfold layC;rw[if_pos h]
theorem Jl (h:¬ (dead=true∨s.down=true)) (he:errF f=3):layC s dead f home rm=((0,3),s,false):=by
 have hp:putF f=(3,[]):=by unfold putF;rw[he];rfl
 unfold layC
 rw[if_neg h,hp]
 rfl
theorem Jm (h:¬ (dead=true∨s.down=true)) (he:errF f=0):layC s dead f home rm=if rm < kF f.body then ((0,12),s,false) else if (layJ s home (laid (textF f))).1=0 then (((rm:Int) - kF f.body,0),(layJ s home (laid (textF f))).2,false) else ((0,(layJ s home (laid (textF f))).1),(layJ s home (laid (textF f))).2,true):=by
 have hp:=uu he
 have hl:=ni f
 have hk:(laid (textF f)).length / 64=kF f.body:=by rw[hl];omega
 unfold layC
 rw[if_neg h,hp]
 simp only[hk]
 rfl
end
def actA (v:JV) (b:List Int) (r:(Int × Int) × DS × Bool):Int × DS × JV:=if r.1.2=0 then (0,r.2.1,{ v with recs:=v.recs++[b],pos:=v.pos+kF b,seq:=v.seq+1 }) else (r.1.2,r.2.1,{ v with dead:=r.2.2 })
theorem uV {v:JV}{b:List Int}{l e:Int}{s:DS}{c:Bool}(h:e≠0):actA v b ((l,e),s,c)=(e,s,{ v with dead:=c }):=by unfold actA;rw[if_neg h]
theorem Bh {n:Nat}{s:DS}{v:JV}{b:List Int}{rm:Nat}(hwf:WF n s) (ok:COk n v) (hr:v.dead=false→rm+v.pos=n / 2) :
  appendJ s v b=actA v b (layC s v.dead (recF v b) (v.half * (n / 2)+n / 2 - rm) rm)∧((layC s v.dead (recF v b) (v.half * (n / 2)+n / 2 - rm) rm).1.2=0→v.dead=false∧(layC s v.dead (recF v b) (v.half * (n / 2)+n / 2 - rm) rm).2.2=false∧b.length≤60000∧kF b≤rm∧(layC s v.dead (recF v b) (v.half * (n / 2)+n / 2 - rm) rm).1.1=(rm:Int) - kF b):=by
 have hn8:=hwf.n2
 have hhn:=jZ hwf
 have he:=Jj ok hn8 b
 unfold appendJ
 by_cases hd:v.dead=true∨s.down=true
 ·rw[if_pos hd,yl hd]
  exact⟨(uV (by decide)).symm,fun h=>absurd h (by simp)⟩
 ·rw[if_neg hd]
  have hdf:v.dead=false:=by simpa using fun h=>hd (.inl h)
  have hv:v={ v with dead:=false }:=by rw[← hdf]
  have hpos:=hr hdf
  by_cases hb:60000 < b.length
  ·rw[if_pos hb] at he
   have hp:putF (recF v b)=(3,[]):=by unfold putF;rw[he];rfl
   rw[Jl hd he,hp,if_pos (by simp),uV (by decide),← hv]
   exact⟨rfl,fun h=>absurd h (by simp)⟩
  ·rw[if_neg hb] at he
   have hp:=uu he
   have hl:=ni (recF v b)
   have hk:(laid (textF (recF v b))).length / 64=kF b:=by rw[hl];show 64 * kF b / 64=_;omega
   have hroom:yT s v=(rm:Int):=by unfold yT;omega
   rw[Jm hd he,hp,if_neg (by simp)]
   simp only[hk,hroom]
   rw[show (recF v b).body=b from rfl]
   by_cases hlt:rm < kF b
   ·rw[if_pos (show (rm:Int) < (kF b:Nat) by omega),if_pos hlt,uV (by decide),← hv]
    exact⟨rfl,fun h=>absurd h (by simp)⟩
   ·rw[if_neg (show ¬ (rm:Int) < (kF b:Nat) by omega),if_neg hlt,show v.half * hn s+v.pos=v.half * (n / 2)+n / 2 - rm by rw[hhn];omega]
    generalize layJ s (v.half * (n / 2)+n / 2 - rm) (laid (textF (recF v b)))=r
    by_cases h0:r.1=0
    ·rw[if_pos h0,if_pos h0]
     exact⟨by unfold actA;rw[if_pos rfl],fun _=>⟨hdf,rfl,by omega,by omega,rfl⟩⟩
    ·rw[if_neg h0,if_neg h0,uV h0]
     exact⟨rfl,fun h=>absurd h h0⟩
end Journal
end Go.Proofs.YtlkeieoecfkkeaaGreat
