/-
  Joined: MarkW.
-/
import Derived.Laws.CopyOwn
import Derived.Laws.Tables
import Derived.Test.YtojcgajjnmjjpaaDoorL16
import Derived.Test.YtojcgajjnmjjpaaDoorL27

namespace Go.Proofs.YtojcgajjnmjjpaaDoor
set_option maxRecDepth 100000
open Go.RowKit

theorem OwnProg.codes9 {w:World} {B:Nat} {a:Option Addr} {len cap:Nat} {rows:List (List I3)} (h:OwnProg w B (.slice a len cap) rows) {w0:World} {a0:Option Addr} {len0 cap0:Nat} (h0:Codes w0 a0 len0 cap0 rows):Codes w a len cap rows:=by
 refine h.codes fun r hr x hx=>?_
 obtain ⟨hl,_,_,hc⟩:=h0
 obtain ⟨t,ht,rfl⟩:=List.getElem_of_mem hr
 rcases hc with hc | ⟨b,off,_,_,hc⟩
 ·omega
 ·obtain ⟨_,_,_,_,hI⟩:=hc t (by omega)
  have e:rows.getD t []=rows[t]:=by simp [List.getD,ht]
  rw [e] at hI
  exact hI.2.2.2.1 x hx
theorem OwnI.lower9 {w:World} {B B':Nat} {s:Sl} {zs:List Int} (h:OwnI w B s zs) (hB:B'≤B):OwnI w B' s zs:=own_lower h hB
theorem OwnV.lower9 {w:World} {B B':Nat} {s:S4} {m:V4} (h:OwnV w B s m) (hB:B'≤B):OwnV w B' s m:=⟨⟨h.1.1.lower9 hB,h.1.2.1.lower9 hB,h.1.2.2.1.lower9 hB,h.1.2.2.2.lower9 hB⟩,h.2⟩
def Blocks (s:S4) (n:Nat):Prop:=(∀ g,(Value.slice s.1.1 s.1.2.1 s.1.2.2).ownBlock=some g→g<n)∧(∀ g,(Value.slice s.2.1.1 s.2.1.2.1 s.2.1.2.2).ownBlock=some g→g<n)∧(∀ g,(Value.slice s.2.2.1.1 s.2.2.1.2.1 s.2.2.1.2.2).ownBlock=some g→g<n)∧∀ g,(Value.slice s.2.2.2.1 s.2.2.2.2.1 s.2.2.2.2.2).ownBlock=some g→g<n
theorem OwnV.blocks {w:World} {B:Nat} {s:S4} {m:V4} (h:OwnV w B s m):Blocks s w.heap.size:=⟨fun g hg=>(h.1.1.lt g hg).2,fun g hg=>(h.1.2.1.lt g hg).2,fun g hg=>(h.1.2.2.1.lt g hg).2,fun g hg=>(h.1.2.2.2.lt g hg).2⟩
theorem Blocks.lt9 {s:S4} {n k:Nat} (h:Blocks s n) (hn:n≤k):Blocks s k:=⟨fun g hg=>Nat.lt_of_lt_of_le (h.1 g hg) hn,fun g hg=>Nat.lt_of_lt_of_le (h.2.1 g hg) hn,fun g hg=>Nat.lt_of_lt_of_le (h.2.2.1 g hg) hn,fun g hg=>Nat.lt_of_lt_of_le (h.2.2.2 g hg) hn⟩
theorem OwnI.but9 {t:Nat} {w w':World} {B:Nat} {s:Sl} {zs:List Int} (h:OwnI w B s zs) (hK:KeptBut t w w') (ht:3≠t):OwnI w' B s zs:=hK.owns h ht
theorem OwnV.but9 {t:Nat} {w w':World} {B:Nat} {s:S4} {m:V4} (h:OwnV w B s m) (hK:KeptBut t w w') (ht:3≠t):OwnV w' B s m:=⟨⟨h.1.1.but9 hK ht,h.1.2.1.but9 hK ht,h.1.2.2.1.but9 hK ht,h.1.2.2.2.but9 hK ht⟩,h.2⟩
theorem KeptBut.blk9 {t:Nat} {w w':World} {g e:Nat} {cs:List Value} (hK:KeptBut t w w') (h:Blk w g e cs) (he:e≠t):Blk w' g e cs:=hK g _ e _ h he
theorem OwnI.off9 {w w':World} {B n:Nat} {s:S4} {r:Sl} {zs:List Int} (h:OwnI w B r zs) (hK:KeptOff s w w') (hs:Blocks s n) (hn:n≤B):OwnI w' B r zs:=by
 refine ⟨h.1,?_⟩
 rcases h.2 with h0 | ⟨g,cap,cur,hv,hg,hh,rest⟩
 ·exact .inl h0
 ·refine .inr ⟨g,cap,cur,hv,hg,?_,rest⟩
  rw [hK g (Array.getElem?_eq_some_iff.1 hh).1 (fun e=>by have:=hs.1 g e;omega) (fun e=>by have:=hs.2.1 g e;omega) (fun e=>by have:=hs.2.2.1 g e;omega) (fun e=>by have:=hs.2.2.2 g e;omega)]
  exact hh
theorem OwnV.off9 {w w':World} {B n:Nat} {s:S4} {r:S4} {m:V4} (h:OwnV w B r m) (hK:KeptOff s w w') (hs:Blocks s n) (hn:n≤B):OwnV w' B r m:=⟨⟨h.1.1.off9 hK hs hn,h.1.2.1.off9 hK hs hn,h.1.2.2.1.off9 hK hs hn,h.1.2.2.2.off9 hK hs hn⟩,h.2⟩
theorem own_ne_blk9 {w:World} {B e s n g t:Nat} {v:Value} {xs cs:List Value} (h:w.ownsRow B e s v n xs) (hB:Blk w g t cs) (he:e≠t):v.ownBlock≠some g:=by
 rcases h.2 with ⟨rfl,_⟩ | ⟨g',cap,cur,rfl,_,hg,_⟩
 ·simp [Value.ownBlock]
 ·simp only [Value.ownBlock,ne_eq,Option.some.injEq]
  rintro rfl
  unfold Blk at hB
  rw [hg] at hB
  simp at hB
  exact he hB.2
theorem Blk.off9 {w w':World} {B g e:Nat} {s:S4} {m:V4} {cs:List Value} (h:Blk w g e cs) (hK:KeptOff s w w') (hX:OwnV w B s m) (he:3≠e):Blk w' g e cs:=
 (hK g h.lt (own_ne_blk9 hX.1.1 h he) (own_ne_blk9 hX.1.2.1 h he) (own_ne_blk9 hX.1.2.2.1 h he) (own_ne_blk9 hX.1.2.2.2 h he)).trans h
end Go.Proofs.YtojcgajjnmjjpaaDoor
