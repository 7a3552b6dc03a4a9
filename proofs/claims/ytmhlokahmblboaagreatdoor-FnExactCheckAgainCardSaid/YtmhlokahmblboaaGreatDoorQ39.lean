/-
  Joined: RunS.
-/
import Derived.Test.YtmhlokahmblboaaGreatDoorQ25

namespace Go.Proofs.YtmhlokahmblboaaGreatDoor
set_option maxRecDepth 100000
set_option maxHeartbeats 16000000
open Go.RowKit
set_option linter.unusedVariables false
set_option linter.unusedSimpArgs false

theorem QS {rows:List (List I3)} {m:V4} {k:Int} (hp:Zq rows=true) (hs:Ze m=true) (hz:VT rows m k=0):(∀ x ∈ Xm rows m k,okB x=true)∧(Xm rows m k).length≤2:=by
 have h1:=GK hp hs hz
 have h2:=Hn rows m k
 unfold Xm
 split
 ·refine ⟨fun x hx=>?_,?_⟩
  ·rw [Wn] at hx
   rcases hx with hx | hx
   ·exact h1 x hx
   subst hx;rfl
  have:=Tu (XX rows m k) (14,0,0)
  omega
 exact ⟨h1,by omega⟩
theorem K3 {xs ys:List I3} (h:∀ x ∈ xs,okB x=true) (k:∀ x ∈ ys,okB x=true):∀ x ∈ ZG xs ys,okB x=true:=fun x hx=>by
 rw [Xc] at hx
 exact hx.elim (h x) (k x)

theorem Xy {w:World} {B cap:Nat} {a:Option Addr} {xs:List I3} (h:w.ownsRow B 90 3 (.slice a xs.length cap) xs.length (Zk xs)) (hf:∀ x ∈ xs,I3.fits x):Zj w a xs.length cap xs:=by
 obtain ⟨a',c',e,hI,_⟩:=Wg h hf
 cases e
 exact hI
theorem Uz {w:World} {a:Option Addr} {n c:Nat} {ks:List Int} (h:ZW .i64 w a n c ks) {i:Nat} (hi:i<n):∃ b off,a=some ⟨b,off,none⟩∧w.cell? ⟨b,off+i,none⟩=some (.int .i64 (ks.getD i 0))∧b<w.heap.size:=by
 obtain ⟨h1,h2,h3,h4⟩:=h
 rcases h4 with h4 | ⟨b,off,ha,hl,hc⟩
 ·omega
 exact ⟨b,off,ha,hc i hi,hl⟩
end Go.Proofs.YtmhlokahmblboaaGreatDoor
