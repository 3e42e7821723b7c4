/-
  Parts laid together: JournalFace.
-/
import Derived.Test.YtlkeieoecfkkeaaGreatPart5
import Derived.Test.YtlkeieoecfkkeaaGreatPart19
import Derived.Test.YtlkeieoecfkkeaaGreatPart14
import Derived.Test.YtlkeieoecfkkeaaGreatPart8
namespace Go.Proofs.YtlkeieoecfkkeaaGreat.Journal
open Go.RowKit Go.Proofs.YtlkeieoecfkkeaaGreat.Sha Go.Proofs.YtlkeieoecfkkeaaGreat.Disk Go.Proofs.YtlkeieoecfkkeaaGreat.Frame
def Sd (w:World) (H:List Nat) (t d n:Nat) (s:DS):Prop:=∃ F,Tab w t∧Dk w F d n s∧t∉F∧H=t :: F
section
variable (Jk : World → List Nat → Nat → Nat → Nat → Nat → JV → Prop)
def Sy (w:World) (H:List Nat) (t d j n:Nat) (s:DS) (v:JV):Prop:=∃ F G,Tab w t∧Dk w F d n s∧Jk w G j t d n v∧t∉F∧t∉G∧Disj F G∧H=t :: (F++G)
structure JournalBase:Prop where
 lts:∀ {w G j t d n v},Jk w G j t d n v→∀ k∈G,k < w.heap.size
 keep:∀ {w w' G K j t d n v},Jk w G j t d n v→Bar K w w'→Disj G K→Jk w' G j t d n v
end
variable {Jk : World → List Nat → Nat → Nat → Nat → Nat → JV → Prop}
theorem Sd.lts {w:World}{H:List Nat}{t d n:Nat}{s:DS}(h:Sd w H t d n s):∀ k∈H,k < w.heap.size:=by
 obtain⟨F,h1,h2,-,rfl⟩:=h
 intro k hk
 rcases List.mem_cons.1 hk with rfl|hk
 ·exact ftab_lt h1
 ·exact h2.lts k hk
theorem Sd.keep {w w':World}{H K:List Nat}{t d n:Nat}{s:DS}(h:Sd w H t d n s) (b:Bar K w w') (j:Disj H K):Sd w' H t d n s:=by
 obtain⟨F,h1,h2,h3,rfl⟩:=h
 exact⟨F,ftab_bar h1 b (j t (by simp)),h2.keep b (fun k hk=>j k (by simp[hk])),h3,rfl⟩
theorem Sy.lts (B:JournalBase Jk) {w:World}{H:List Nat}{t d j n:Nat}{s:DS}{v:JV}(h:Sy Jk w H t d j n s v):∀ k∈H,k < w.heap.size:=by
 obtain⟨F,G,h1,h2,h3,-,-,-,rfl⟩:=h
 intro k hk
 rcases List.mem_cons.1 hk with rfl|hk
 ·exact ftab_lt h1
 ·rcases List.mem_append.1 hk with hk|hk
  ·exact h2.lts k hk
  ·exact B.lts h3 k hk
theorem Sy.keep (B:JournalBase Jk) {w w':World}{H K:List Nat}{t d j n:Nat}{s:DS}{v:JV}(h:Sy Jk w H t d j n s v) (b:Bar K w w') (q:Disj H K):Sy Jk w' H t d j n s v:=by
 obtain⟨F,G,h1,h2,h3,h4,h5,h6,rfl⟩:=h
 exact⟨F,G,ftab_bar h1 b (q t (by simp)),h2.keep b (fun k hk=>q k (by simp[hk])),B.keep h3 b (fun k hk=>q k (by simp[hk])),h4,h5,h6,rfl⟩
theorem Sy.below (B:JournalBase Jk) {w w':World}{H:List Nat}{t d j n:Nat}{s:DS}{v:JV}(h:Kept (Sy Jk w H t d j n s v)) (b:Below w.heap.size w w'):Kept (Sy Jk w' H t d j n s v):=⟨h.out.keep B (barOf b []) (fun _ _=>by simp)⟩
theorem Sy.sd {w:World}{H:List Nat}{t d j n:Nat}{s:DS}{v:JV}(h:Sy Jk w H t d j n s v):∃ H',Sd w H' t d n s∧∀ k∈H',k∈H:=by
 obtain⟨F,G,h1,h2,-,h4,-,-,rfl⟩:=h
 refine⟨t :: F,⟨F,h1,h2,h4,rfl⟩,fun k hk=>?_⟩
 rcases List.mem_cons.1 hk with e|hk
 ·simp[e]
 ·simp[hk]
def OpenPost (Jk:World→List Nat→Nat→Nat→Nat→Nat→JV→Prop) (w:World) (H:List Nat) (t d n:Nat) (s:DS) (e:Ending) (w':World):Prop:=∃ j H',e=.returned (.pointer (some ⟨j,0,none⟩))∧Sy Jk w' H' t d j n s (openJ s)∧Fp H H' w w'
def PictPost (w:World) (v:JV) (e:Ending) (w':World):Prop:=∃ A n c,e=.returned (.tuple #[.slice A n c,.bool v.has])∧n≤c∧c≤9223372036854775807∧Rd w' A n v.pict∧Below w.heap.size w w'
def RecsPost (w:World) (v:JV) (e:Ending) (w':World):Prop:=∃ A c,e=.returned (.slice A v.recs.length c)∧v.recs.length≤c∧c≤9223372036854775807∧Rws w' A v.recs.length (rowOf v.recs)∧Below w.heap.size w w'∧∀ (F:List Nat) (W:World),(∀ k∈F,k < w.heap.size)→Bar F w' W→Rws W A v.recs.length (rowOf v.recs)
end Go.Proofs.YtlkeieoecfkkeaaGreat.Journal
