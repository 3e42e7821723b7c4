/-
  Parts laid together: JMem JActSpec.
-/
import Derived.Test.YtlkeieoecfkkeaaGreatPart5
import Derived.Test.YtlkeieoecfkkeaaGreatPart19
import Derived.Test.YtlkeieoecfkkeaaGreatPart14
import Derived.Test.YtlkeieoecfkkeaaGreatPart20
namespace Go.Proofs.YtlkeieoecfkkeaaGreat.Journal
open Go.RowKit Go.Proofs.YtlkeieoecfkkeaaGreat.Sha Go.Proofs.YtlkeieoecfkkeaaGreat.Disk Go.Proofs.YtlkeieoecfkkeaaGreat.Frame
def jc (t d:Nat) (fr gen:Int) (has:Bool) (A:Option Addr) (m c:Nat) (vr:Value) (room:Int) (dead:Bool):Array Value :=
 #[.pointer (some ⟨t,0,none⟩),.pointer (some ⟨d,0,none⟩),.int .i64 fr,.int .i64 gen,.bool has,.slice A m c,vr,.int .i64 room,.bool dead]
structure COk (n:Nat) (v:JV):Prop where
 half:v.half=0∨v.half=1
 gen:0≤v.gen∧v.gen≤4294967295
 seq:v.seq=(v.recs.length:Int)+1
 pos:v.pos≤n / 2
 recs:v.recs.length≤v.pos
 pict:v.pict.length≤60000
 bods:∀ b∈v.recs,b.length≤60000
theorem COk.dead {n:Nat}{v:JV}(h:COk n v):COk n (deadJ v):=⟨h.half,h.gen,h.seq,h.pos,h.recs,h.pict,h.bods⟩
def Cj (w:World) (G:List Nat) (j t d n:Nat) (v:JV):Prop :=
 ∃ A m c vr rm K,Blk w j 187 (jc t d ((v.half * (n / 2):Nat):Int) v.gen v.has A m c vr ((rm:Nat):Int) v.dead)∧m≤c∧c≤9223372036854775807∧Rd w A m v.pict∧(In A m K∧Off A m vr.ownBlock.toList)∧Og w 22 vr v.recs K ∧
  (∀ k∈K,k < w.heap.size)∧j∉K∧G=j :: K∧COk n v∧rm≤n / 2∧(v.dead=false→rm+v.pos=n / 2)
theorem Cj.lts {w:World}{G:List Nat}{j t d n:Nat}{v:JV}(h:Cj w G j t d n v):∀ k∈G,k < w.heap.size:=by
 obtain⟨A,m,c,vr,rm,K,h1,-,-,-,-,-,h7,-,rfl,-⟩:=h
 intro k hk
 rcases List.mem_cons.1 hk with rfl|hk
 ·exact h1.lt
 ·exact h7 k hk
theorem Cj.keep {w w':World}{G K:List Nat}{j t d n:Nat}{v:JV}(h:Cj w G j t d n v) (b:Bar K w w') (q:Disj G K):Cj w' G j t d n v:=by
 obtain⟨A,m,c,vr,rm,K',h1,h2,h3,h4,h5,h6,h7,h8,rfl,h9⟩:=h
 have jk:Disj K' K:=fun k hk=>q k (by simp[hk])
 exact⟨A,m,c,vr,rm,K',h1.bar b (q j (by simp)),h2,h3,h4.far b (h5.1.off jk),h5,h6.keep b jk,fun k hk=>Nat.lt_of_lt_of_le (h7 k hk) b.size,h8,rfl,h9⟩
theorem Cj.ok {w:World}{G:List Nat}{j t d n:Nat}{v:JV}(h:Cj w G j t d n v):COk n v:=by
 obtain⟨A,m,c,vr,rm,K',-,-,-,-,-,-,-,-,-,h,-⟩:=h
 exact h
section
variable {s : DS} {dead : Bool} {f : FV} {home rm : Nat}
end
end Go.Proofs.YtlkeieoecfkkeaaGreat.Journal
