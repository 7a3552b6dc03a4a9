/-
  Joined: EvC, CmtQ, FulQ, FulB.
-/
import Derived.Stop.Asserts
import Derived.Recover
import Derived.Shelf.SlSortCmp.Insertion
import Derived.Shelf.SlSortCmp.NoneTotal
import Derived.Shelf.Spec.SlicesGrow
import Derived.Laws.AppendOwnNone
import Derived.Lib.SliceRun
import Derived.Lib.Hide
import Derived.Deep.MidRow
import Derived.Test.YtjgffnlmjmibgaaDoorN30

namespace Go.Proofs.YtjgffnlmjmibgaaDoor
set_option maxRecDepth 100000
set_option maxHeartbeats 16000000
open Go.RowKit
set_option linter.unusedVariables false
set_option linter.unusedSimpArgs false

def evsM (rows:List (List I3)):V4→List Int→List I4
 | _,[]=>[]
 | m,k::ks=>eventM rows m k.toNat::evsM rows (goM rows m k).1 ks
def EvGot (e:Ending) (w:World) (B:Nat) (es:List I4) (c:Int):Prop:=∃ v,e=.returned (.tuple #[v,.int .i64 c])∧w.ownsRow B 154 4 v es.length (flat4 es)
theorem info_event:(Tryd.prog.info? 154).map (fun i=>(i.zero,i.size,i.bytes))=some (some (.agg #[.int .i64 0,.int .i64 0,.int .i64 0,.int .i64 0]),4,32):=by kernel_rfl
theorem runI_one (rows:List (List I3)) (m:V4) (fs:List I3) (k:Int):runI rows m fs [k]=if haltM rows m k=0 then ((goM rows m k).1,fs++ownM rows m k,0) else (m,fs,haltM rows m k):=by
 show (if haltM rows m k=0 then _ else _)=_
 rfl
theorem four_at {w:World} {G:Nat} {a b c d:Value} (h:Blk w G 154 [a,b,c,d]):∀ j u,[a,b,c,d][j]?=some u→w.cell? ((⟨G,0,none⟩:Addr).add j)=some u:=by
 intro j u hj
 rw [Addr.add_mid,Nat.zero_add,h.cell]
 exact hj
theorem four_one (a b c d:Int):∀ u ∈ [Value.int .i64 a,Value.int .i64 b,Value.int .i64 c,Value.int .i64 d],u.oneCell'=true:=by
 intro u hu
 simp at hu
 rcases hu with rfl | rfl | rfl | rfl<;>rfl
theorem ints_cellE {w:World} {a:Option Addr} {n c:Nat} {ks:List Int} (h:Ints .i64 w a n c ks) {i:Nat} (hi:i<n):∃ b off,a=some ⟨b,off,none⟩∧w.cell? ⟨b,off+i,none⟩=some (.int .i64 (ks.getD i 0))∧b<w.heap.size:=by
 obtain ⟨h1,h2,h3,h4⟩:=h
 rcases h4 with h4 | ⟨b,off,ha,hl,hc⟩
 ·omega
 ·exact ⟨b,off,ha,hc i hi,hl⟩


theorem goM_natC (rows:List (List I3)) (m:V4) (k:Nat):goM rows m (k:Int)=stepM m (insM rows m k) k:=by unfold goM;rw [Int.toNat_natCast]
theorem halt_go {rows:List (List I3)} {m:V4} {k:Nat} (hk:k<3) (hc:canM rows m k=true):haltM rows m (k:Int)=0:=by
 have hd:=(can_parts hc).1
 unfold haltM
 rw [if_pos (by omega),Int.toNat_natCast]
 simp [hd,hc]
theorem runI_cons {rows:List (List I3)} {m:V4} {fs:List I3} {k:Int} {ks:List Int} (h:(runI rows m fs (k::ks)).2.2=0):haltM rows m k=0∧runI rows m fs (k::ks)=runI rows (goM rows m k).1 (fs++ownM rows m k) ks:=by
 have e:runI rows m fs (k::ks)=if haltM rows m k=0 then runI rows (goM rows m k).1 (fs++ownM rows m k) ks else (m,fs,haltM rows m k):=rfl
 by_cases hz:haltM rows m k=0
 ·rw [if_pos hz] at e
  exact ⟨hz,e⟩
 ·rw [e,if_neg hz] at h
  exact absurd h hz
theorem runI_yes {rows:List (List I3)} {m:V4} {fs:List I3} {k:Int} {ks:List Int} (hz:haltM rows m k=0):runI rows m fs (k::ks)=runI rows (goM rows m k).1 (fs++ownM rows m k) ks:=by
 show (if haltM rows m k=0 then _ else _)=_
 rw [if_pos hz]
theorem evsM_len (rows:List (List I3)):∀ (ks:List Int) (m:V4),(evsM rows m ks).length=ks.length
 | [],m=>rfl
 | k::ks,m=>by show (evsM rows (goM rows m k).1 ks).length+1=ks.length+1;rw [evsM_len rows ks]


def nxM (rows:List (List I3)) (m:V4):List (Int × V4):=(enabM rows m 3).map fun k=>(k,(goM rows m k).1)
theorem nxM_mem {rows:List (List I3)} {m:V4} {t:Int × V4} (h:t ∈ nxM rows m):haltM rows m t.1=0∧t.2=(goM rows m t.1).1:=by
 unfold nxM at h
 obtain ⟨k,hk,rfl⟩:=List.mem_map.1 h
 obtain ⟨i,hi,hie⟩:=List.getElem_of_mem hk
 obtain ⟨k',e,h3,hc⟩:=enab_at hi
 have e2:(enabM rows m 3).getD i 0=k:=by simp [List.getD,hi,hie]
 rw [e2] at e
 subst e
 exact ⟨halt_go h3 hc,rfl⟩
theorem nxM_shape {rows:List (List I3)} {m:V4} (hp:progOk rows=true) (hs:shapeOk m=true) {t:Int × V4} (h:t ∈ nxM rows m):shapeOk t.2=true:=by
 obtain ⟨h1,h2⟩:=nxM_mem h
 rw [h2]
 exact goM_shape hp hs h1
def fullS (rows:List (List I3)):List (Rec6 V4):=srch (nxM rows) 2000 0 [(zeroV,0,0)]
def Shaped (S:List (Rec6 V4)):Prop:=∀ r ∈ S,shapeOk r.1=true
theorem putS_shaped {i:Nat} {S:List (Rec6 V4)} {t:Int × V4} (h:Shaped S) (ht:shapeOk t.2=true):Shaped (putS i S t):=by
 unfold putS
 split
 ·exact h
 ·intro r hr
  rcases List.mem_append.1 hr with hr | hr
  ·exact h r hr
  ·simp at hr
   subst hr
   exact ht
theorem onS_shaped {i:Nat}:∀ (ts:List (Int × V4)) (S:List (Rec6 V4)),Shaped S→(∀ t ∈ ts,shapeOk t.2=true)→Shaped (onS i S ts)
 | [],S,h,_=>h
 | t::ts,S,h,ht=>onS_shaped ts _ (putS_shaped h (ht t (by simp))) (fun u hu=>ht u (by simp [hu]))
theorem srch_shaped {rows:List (List I3)} (hp:progOk rows=true):∀ (f i:Nat) (S:List (Rec6 V4)),Shaped S→Shaped (srch (nxM rows) f i S)
 | 0,_,S,h=>h
 | f+1,i,S,h=>by
  unfold srch
  split
  ·exact h
  ·rename_i r hr
   exact srch_shaped hp f (i+1) _ (onS_shaped _ S h (fun t ht=>nxM_shape hp (h r (List.mem_of_getElem? hr)) ht))
theorem fullS_shaped {rows:List (List I3)} (hp:progOk rows=true):Shaped (fullS rows):=srch_shaped hp _ _ _ (fun r hr=>by simp at hr;subst hr;exact zero_shape)
theorem fullS_head (rows:List (List I3)):(fullS rows)[0]?=some (zeroV,0,0):=by
 obtain ⟨r,hr⟩:=srch_pre (nxM rows) 2000 0 [(zeroV,0,0)]
 unfold fullS
 rw [← hr]
 rfl
theorem fullS_closed {rows:List (List I3)} (h:(fullS rows).length≤2000):∀ r ∈ fullS rows,∀ t ∈ nxM rows r.1,t.2 ∈ (fullS rows).map (·.1):=
 srch_closed 2000 0 _ (fun j r hj=>by omega) (by omega) (by unfold fullS at h;omega)


def remM (rows:List (List I3)) (m:V4) (k:Nat):Nat:=(codeM rows k).length - (m.1.getD k 0).toNat
theorem rem_step {rows:List (List I3)} {m:V4} (hp:progOk rows=true) (hs:shapeOk m=true) {k:Nat} (hk:k<3) (hd:doneM rows m k=false) :
  remM rows (goM rows m k).1 k+1≤remM rows m k∧∀ j,j≠k→remM rows (goM rows m k).1 j=remM rows m j:=by
 have h1:=stepM_own hp hs hk hd
 have hb:=shape_bounds hs
 have hpc:=getD_in hb.1 (by omega) k
 have hlt:m.1.getD k 0<(codeM rows k).length:=by
  unfold doneM at hd
  rw [decide_eq_false_iff_not] at hd
  omega
 rw [goM_natC]
 refine ⟨?_,fun j hj=>?_⟩
 ·unfold remM
  omega
 ·unfold remM
  rw [stepM_other m _ hj]
end Go.Proofs.YtjgffnlmjmibgaaDoor
