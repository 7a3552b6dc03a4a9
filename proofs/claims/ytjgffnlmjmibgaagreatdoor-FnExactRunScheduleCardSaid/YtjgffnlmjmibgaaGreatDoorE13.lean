/-
  Joined: Vm4, Mach0.
-/
import Derived.Laws.BytesArg
import Derived.Test.YtjgffnlmjmibgaaGreatDoorE12

namespace Go.Proofs.YtjgffnlmjmibgaaGreatDoor
set_option maxRecDepth 100000
set_option maxHeartbeats 16000000
open Go.RowKit

def allOf (m:V4):List Int:=((m.1++m.2.1)++m.2.2.1)++m.2.2.2
theorem allIn_parts {zs:List Int} {n high:Int} (h:allIn zs n high=true):(zs.length:Int)=n∧∀ z ∈ zs,0≤z∧z≤high:=by
 unfold allIn at h
 simp at h
 exact ⟨h.2,h.1⟩
theorem shape_parts {m:V4} (h:shapeOk m=true):m.1.length=3∧m.2.1.length=4∧m.2.2.1.length=2∧m.2.2.2.length=6∧∀ z ∈ allOf m,0≤z∧z≤9:=by
 unfold shapeOk at h
 simp only [Bool.and_eq_true] at h
 obtain ⟨h0,h1,h2,h3⟩:=h
 obtain ⟨l0,e0⟩:=allIn_parts h0
 obtain ⟨l1,e1⟩:=allIn_parts h1
 obtain ⟨l2,e2⟩:=allIn_parts h2
 obtain ⟨l3,e3⟩:=allIn_parts h3
 refine ⟨by omega,by omega,by omega,by omega,fun z hz=>?_⟩
 unfold allOf at hz
 simp only [List.mem_append] at hz
 rcases hz with ((hz | hz) | hz) | hz
 ·have:=e0 z hz;omega
 ·exact e1 z hz
 ·have:=e2 z hz;omega
 ·exact e3 z hz
theorem ints_news {w:World} {b off n c:Nat} {zs:List Int} (h:Ints .i64 w (some ⟨b,off,none⟩) n c zs):∀ j u,(zs.map (Value.int .i64))[j]?=some u→w.cell? ((⟨b,off,none⟩:Addr).add j)=some u:=by
 obtain ⟨hl,_,_,h0⟩:=h
 intro j u hj
 have hjl:j<zs.length:=by
  rcases Nat.lt_or_ge j zs.length with h | h
  ·exact h
  ·simp [List.getElem?_eq_none h] at hj
 rcases h0 with h0 | ⟨b',off',ha,_,hc⟩
 ·omega
 ·cases ha
  have e:(⟨b,off,none⟩:Addr).add j=⟨b,off+j,none⟩:=by unfold Addr.add;split<;>simp_all
  rw [e,hc j (by omega)]
  simp [hjl] at hj
  simp [List.getD,hjl,hj]
theorem one_i64s (zs:List Int):∀ u ∈ zs.map (Value.int .i64),u.oneCell'=true:=by intro u hu;obtain ⟨z,_,rfl⟩:=List.mem_map.1 hu;rfl
theorem own_empty (w:World) (t s B:Nat) (hB:B≤w.heap.size):(w.alloc (.cells #[] t)).ownsRow B t s (.slice (some ⟨w.heap.size,0,none⟩) 0 0) 0 []:=World.ownsRow_lit w #[] 0 hB (by unfold maxLen;omega) (by simp)
theorem some_of_ints {w:World} {a:Option Addr} {n c k:Nat} {zs:List Int} (h:Ints .i64 w a n c zs) (hl:zs.length=k) (hk:0<k):n=k∧∃ b off,a=some ⟨b,off,none⟩:=by
 have hn:n=k:=h.1.symm.trans hl
 rcases h.2.2.2 with h0 | ⟨b,off,ha,_⟩
 ·omega
 ·exact ⟨hn,b,off,ha⟩


def codeM (rows:List (List I3)) (k:Nat):List I3:=rows.getD k []
def doneM (rows:List (List I3)) (m:V4) (k:Nat):Bool:=decide (((codeM rows k).length:Int)≤m.1.getD k 0)
def insM (rows:List (List I3)) (m:V4) (k:Nat):I3:=(codeM rows k).getD (m.1.getD k 0).toNat (0,0,0)
def atLock (m:V4) (x:I3):Bool:=decide (x.1=5) && !decide (m.2.2.1.getD x.2.1.toNat 0=0)
def waitM (rows:List (List I3)) (m:V4) (k:Nat):Bool:=!doneM rows m k && atLock m (insM rows m k)
def canM (rows:List (List I3)) (m:V4) (k:Nat):Bool:=!doneM rows m k && !atLock m (insM rows m k)
def enabM (rows:List (List I3)) (m:V4):Nat→List Int
 | 0=>[]
 | k+1=>if canM rows m k then enabM rows m k++[(k:Int)] else enabM rows m k
def leftM (rows:List (List I3)) (m:V4) (k:Nat):Bool:=(List.range' k (3 - k)).any fun i=>!doneM rows m i
def stuckM (rows:List (List I3)) (m:V4):Bool:=decide (enabM rows m 3=[]) && leftM rows m 0
def stepM (m:V4) (x:I3) (k:Nat):V4 × Int:=
 if x.1=1 then ((m.1.set k (m.1.getD k 0+1),m.2.1,m.2.2.1,m.2.2.2.set (k*2+x.2.1.toNat) (m.2.1.getD x.2.2.toNat 0)),0)
 else if x.1=2 then ((m.1.set k (m.1.getD k 0+1),m.2.1.set x.2.1.toNat (m.2.2.2.getD (k*2+x.2.2.toNat) 0),m.2.2.1,m.2.2.2),0)
 else if x.1=3 then ((m.1.set k (m.1.getD k 0+1),m.2.1,m.2.2.1,m.2.2.2.set (k*2+x.2.1.toNat) x.2.2),0)
 else if x.1=4 then ((m.1.set k (m.1.getD k 0+1),m.2.1,m.2.2.1,m.2.2.2.set (k*2+x.2.1.toNat) ((m.2.2.2.getD (k*2+x.2.1.toNat) 0+x.2.2) % 10)),0)
 else if x.1=5 then ((m.1.set k (m.1.getD k 0+1),m.2.1,m.2.2.1.set x.2.1.toNat (k+1),m.2.2.2),0)
 else if x.1=6 then
  if m.2.2.1.getD x.2.1.toNat 0=k+1 then ((m.1.set k (m.1.getD k 0+1),m.2.1,m.2.2.1.set x.2.1.toNat 0,m.2.2.2),0)
  else ((m.1.set k (m.1.getD k 0+1),m.2.1,m.2.2.1,m.2.2.2),13)
 else if x.1=7 then
  if m.2.2.2.getD (k*2+x.2.1.toNat) 0=0 then ((m.1.set k (m.1.getD k 0+1),m.2.1,m.2.2.1,m.2.2.2),0)
  else ((m.1.set k x.2.2,m.2.1,m.2.2.1,m.2.2.2),0)
 else if m.2.2.2.getD (k*2+x.2.1.toNat) 0=x.2.2 then ((m.1.set k (m.1.getD k 0+1),m.2.1,m.2.2.1,m.2.2.2),0)
 else ((m.1.set k (m.1.getD k 0+1),m.2.1,m.2.2.1,m.2.2.2),12)

theorem leftM_step (rows:List (List I3)) (m:V4) {k:Nat} (hk:k<3):leftM rows m k=(!doneM rows m k || leftM rows m (k+1)):=by
 unfold leftM
 obtain ⟨n,hn⟩:∃ n,3 - k=n+1:=⟨3 - k - 1,by omega⟩
 have hn':3 - (k+1)=n:=by omega
 rw [hn,hn',List.range'_succ,List.any_cons]
theorem leftM_end (rows:List (List I3)) (m:V4):leftM rows m 3=false:=rfl

theorem shape_lists {m:V4} (h:shapeOk m=true):∃ p0 p1 p2 v0 v1 v2 v3 h0 h1 x0 y0 x1 y1 x2 y2:Int,m=([p0,p1,p2],[v0,v1,v2,v3],[h0,h1],[x0,y0,x1,y1,x2,y2]):=by
 obtain ⟨l0,l1,l2,l3,_⟩:=shape_parts h
 obtain ⟨a,b,c,d⟩:=m
 simp only at l0 l1 l2 l3
 match a,b,c,d,l0,l1,l2,l3 with
 | [p0,p1,p2],[v0,v1,v2,v3],[h0,h1],[x0,y0,x1,y1,x2,y2],_,_,_,_=>exact ⟨p0,p1,p2,v0,v1,v2,v3,h0,h1,x0,y0,x1,y1,x2,y2,rfl⟩
theorem shape_bounds {m:V4} (h:shapeOk m=true):(∀ z ∈ m.1,0≤z∧z≤6)∧(∀ z ∈ m.2.1,0≤z∧z≤9)∧(∀ z ∈ m.2.2.1,0≤z∧z≤3)∧∀ z ∈ m.2.2.2,0≤z∧z≤9:=by
 unfold shapeOk at h
 simp only [Bool.and_eq_true] at h
 exact ⟨(allIn_parts h.1).2,(allIn_parts h.2.1).2,(allIn_parts h.2.2.1).2,(allIn_parts h.2.2.2).2⟩
theorem getD_in {zs:List Int} {lo hi:Int} (h:∀ z ∈ zs,lo≤z∧z≤hi) (h0:lo≤0∧0≤hi) (k:Nat):lo≤zs.getD k 0∧zs.getD k 0≤hi:=by
 rcases Nat.lt_or_ge k zs.length with hk | hk
 ·simp only [List.getD,List.getElem?_eq_getElem hk,Option.getD_some]
  exact h _ (List.getElem_mem hk)
 ·simp [List.getD,List.getElem?_eq_none hk,h0]

def machCells (c0 c1 c2:Value) (m:V4):List Value:=
 [c0,.int .i64 (m.1.getD 0 0),.int .i64 (m.2.2.2.getD 0 0),.int .i64 (m.2.2.2.getD 1 0),
  c1,.int .i64 (m.1.getD 1 0),.int .i64 (m.2.2.2.getD 2 0),.int .i64 (m.2.2.2.getD 3 0),
  c2,.int .i64 (m.1.getD 2 0),.int .i64 (m.2.2.2.getD 4 0),.int .i64 (m.2.2.2.getD 5 0),
  .int .i64 (m.2.1.getD 0 0),.int .i64 (m.2.1.getD 1 0),.int .i64 (m.2.1.getD 2 0),.int .i64 (m.2.1.getD 3 0),
  .int .i64 (m.2.2.1.getD 0 0),.int .i64 (m.2.2.1.getD 1 0)]
def codeV (c0 c1 c2:Value) (k:Nat):Value:=[c0,c1,c2].getD k undef

section
variable (c0 c1 c2 : Value) (m : V4)
theorem mc_code {k:Nat} (hk:k<3):(machCells c0 c1 c2 m)[k*4]?=some (codeV c0 c1 c2 k):=by
 match k,hk with
 | 0,_=>rfl
 | 1,_=>rfl
 | 2,_=>rfl
theorem mc_pc {k:Nat} (hk:k<3):(machCells c0 c1 c2 m)[k*4+1]?=some (.int .i64 (m.1.getD k 0)):=by
 match k,hk with
 | 0,_=>rfl
 | 1,_=>rfl
 | 2,_=>rfl
theorem mc_held {a:Nat} (ha:a<2):(machCells c0 c1 c2 m)[16+a]?=some (.int .i64 (m.2.2.1.getD a 0)):=by
 match a,ha with
 | 0,_=>rfl
 | 1,_=>rfl
end

section
variable (c0 c1 c2 : Value) (m : V4) (h : shapeOk m = true)
include h
end

def Blk (w:World) (g:Nat) (t:TypeId) (cs:List Value):Prop:=w.heap[g]?=some (.cells cs.toArray t (0,0))
theorem Blk.lt {w:World} {g t:Nat} {cs:List Value} (h:Blk w g t cs):g<w.heap.size:=(Array.getElem?_eq_some_iff.1 h).1
theorem Blk.cell {w:World} {g t:Nat} {cs:List Value} (h:Blk w g t cs) (i:Nat):w.cell? ⟨g,i,none⟩=cs[i]?:=by
 unfold Blk at h
 simp [World.cell?,h]
theorem Blk.frozen {w:World} {g t:Nat} {cs:List Value} (h:Blk w g t cs) (i:Nat):w.frozen? ⟨g,i,none⟩=false:=by
 unfold Blk at h
 simp [World.frozen?,h]
theorem Blk.set {w:World} {g t:Nat} {cs:List Value} (h:Blk w g t cs) (i:Nat) (v:Value):Blk (w.setCell ⟨g,i,none⟩ v) g t (cs.set i v):=by
 have hl:=h.lt
 unfold Blk at h ⊢
 simp [World.setCell,Array.getElem?_modify,h]
theorem Blk.below {w w':World} {g t:Nat} {cs:List Value} (h:Blk w g t cs) (hb:Below w.heap.size w w'):Blk w' g t cs:=(hb.block g h.lt).trans h
theorem Blk.new (w:World) (t:Nat) (cs:List Value):Blk (w.alloc (.cells cs.toArray t)) w.heap.size t cs:=by
 show (w.heap.push _)[w.heap.size]?=_
 simp
theorem Blk.drew {w:World} {g t:Nat} {cs:List Value} (h:Blk w g t cs):Blk w.drew g t cs:=h
theorem Blk.drewN {w:World} {g t:Nat} {cs:List Value} (h:Blk w g t cs) (d:Nat):Blk (w.drewN d) g t cs:=h
theorem Blk.off {w:World} {g t:Nat} {cs:List Value} (h:Blk w g t cs) (p:Addr) (v:Value) (hp:g≠p.block):Blk (w.setCell p v) g t cs:=(Below.heap_setCell w p v g hp).trans h
end Go.Proofs.YtjgffnlmjmibgaaGreatDoor
