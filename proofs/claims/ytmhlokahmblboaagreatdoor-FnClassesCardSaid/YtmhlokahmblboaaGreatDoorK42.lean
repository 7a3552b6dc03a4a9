/-
  Joined: NorI, ClsP, ClsQ, Lists, PackRead, Num, NumOK, PackList, NumbersPlain, PackListI.
-/
import Derived.Test.YtmhlokahmblboaaGreatDoorK41

namespace Go.Proofs.YtmhlokahmblboaaGreatDoor
set_option maxRecDepth 100000
set_option maxHeartbeats 16000000
open Go.RowKit
set_option linter.unusedVariables false
set_option linter.unusedSimpArgs false

noncomputable def stJ (es:List I4) (s:Nat):(Nat→Nat) × List Nat:=stI (Z8 es) (thE es) es.length s
theorem TS (es:List I4) (s:Nat):stJ es (s+1)=(fun t=>(stJ es s).1 t+(if t=ZQ (okN (Z8 es) (thE es) (stJ es s).1) (thE es) es.length then 1 else 0),(stJ es s).2++[ZQ (okN (Z8 es) (thE es) (stJ es s).1) (thE es) es.length]):=rfl
theorem St (es:List I4) (t:Nat):∀ s,(stJ es s).1 t≤s
 | 0=>Nat.le_refl _
 | s+1=>by
  rw [TS]
  have:=St es t s
  show (stJ es s).1 t+_≤_
  split<;>omega
theorem Jg {es:List I4} (h:YH es) {s:Nat} (hs:s<es.length):ZQ (okN (Z8 es) (thE es) (stJ es s).1) (thE es) es.length<3:=by
 obtain ⟨_,_,_,h4⟩:=WA (D:=Z8 es) (B:=YI (Z8 es)) (Wd h) (Xt h) (n:=es.length) (fun i k _ _=>XQ) s (by omega)
 obtain ⟨b,_,_,hl⟩:=h4 hs
 unfold stJ
 rw [hl]
 exact Xt h b
theorem PW {es:List I4} (h:YH es):(stJ es es.length).2.map (fun t:Nat=>(t:Int))=V5 es:=by
 unfold V5 stJ
 rw [(PO h).2]
theorem Rf (es:List I4):∀ s,(stJ es s).2.length=s
 | 0=>rfl
 | s+1=>by rw [TS,List.length_append,Rf es s];rfl
theorem Ho {es:List I4} (h:YH es):(V5 es).length=es.length:=by
 rw [← PW h,List.length_map,Rf]
theorem WF {rows:List (List I3)}:∀ (ks:List Int) (m:V4) (fs:List I3),(ZE rows m fs ks).2.2=0→YH (YK rows m ks)
 | [],_,_,_=>fun x hx=>by simp [YK] at hx
 | k::ks,m,fs,h=>by
  obtain ⟨hz,he⟩:=Xg h
  rw [he] at h
  have ih:=WF ks _ _ h
  obtain ⟨h0,h2,_⟩:=ZX hz
  intro x hx
  simp only [YK,List.mem_cons] at hx
  rcases hx with rfl | hx
  ·show 0≤(Zz rows m k.toNat).1∧(Zz rows m k.toNat).1<3
   unfold Zz
   simp only
   omega
  exact ih x hx
def JE (w wr:World) (gT:Nat) (es:List I4) (s:Nat) (v:Value):Prop:=
 Blk wr gT 142 (tab 3 fun u=>.int .i64 ((stJ es s).1 u:Nat))∧wr.ownsRow w.heap.size 3 1 v s (((stJ es s).2.map (fun t:Nat=>(t:Int))).map (Value.int .i64))∧Below w.heap.size w wr

def FZ (e:Ending) (w:World) (B:Nat) (ks:List Int):Prop:=∃ v,e=.returned v∧w.ownsRow B 3 1 v ks.length (ks.map (Value.int .i64))

theorem NP (ea:Option Addr) (n9 ec:Nat) (es:List I4) (w1:World) (hEv:Evs w1 ea n9 es) (hE:n9≤4096) (hec:n9≤ec) (hI:YH es) (hn9:n9=es.length) :
  Calls Tryz.prog 31 #[.slice ea n9 ec] w1 fun e w'=>FZ e w' w1.heap.size (V5 es)∧Below w1.heap.size w1 w':=by
 obtain ⟨i1,hi,hz3,hz4,hz5⟩:=info_parts Xc
 have HL:Hid (n9=es.length):=hn9
 clear hn9
 have kC:=P9 ea n9 ec es w1 hEv hE hec hI
 go_enter Tryz.func31,Tryz.ntmps31
 go_wp2_with fail
 refine kC.mono ?_
 rintro e w2 ⟨gC,rfl,pC,hgC,hb⟩
 have hEv2:=hEv.below hb
 have bw2:=hb
 clear kC hb hEv hgC
 have ha:Below w2.heap.size w2 (w2.alloc (.cells #[.int .i64 0,.int .i64 0,.int .i64 0] 142)):=by go_grown
 have pT:=Blk.new w2 142 [.int .i64 0,.int .i64 0,.int .i64 0]
 have st:JE w2 (w2.alloc (.cells #[.int .i64 0,.int .i64 0,.int .i64 0] 142)) w2.heap.size es 0 (.slice none 0 0):=⟨pT,World.ownsRow_nil _ _ _ _,ha⟩
 have HLs:Hid (∀ s,s<n9→ZQ (okN (Z8 es) (thE es) (stJ es s).1) (thE es) n9<3):=fun s hs=>by
  have:=Jg hI (s:=s) (by rw [← HL.out];exact hs)
  rw [← HL.out] at this
  exact this
 have HNx:Hid (∀ s,stJ es (s+1)=(fun t=>(stJ es s).1 t+(if t=ZQ (okN (Z8 es) (thE es) (stJ es s).1) (thE es) n9 then 1 else 0),(stJ es s).2++[ZQ (okN (Z8 es) (thE es) (stJ es s).1) (thE es) n9])):=fun s=>by rw [HL.out];exact TS es s
 have kL:=fun W (b:Below w2.heap.size w2 W) (f:Nat→Nat) (hf:∀ t,f t≤5000)=>RN ea n9 ec gC es W (hEv2.below b) hE hI (pC.below b) f hf
 unfold ck at kL
 obtain ⟨gT,hgT⟩:∃ gT,gT=w2.heap.size:=⟨_,rfl⟩
 have hgTw:w2.heap.size≤gT:=by omega
 rw [← hgT] at st
 have HG:Hid (gT=w2.heap.size):=hgT
 clear pC hEv2 pT ha hgT
 go_wp2_with fail
 rw [← HG.out]
 go_loopw [4,11] (fun sv si wr=>∃ (s:Nat) (vv:Value),s≤n9∧vv=sv∧si=.int .i64 s∧JE w2 wr gT es s vv) (fun _ si _=>n9 - (intOf si).toNat)
 case atStart=>exact ⟨0,_,by omega,rfl,rfl,st⟩
 case round =>
  clear st
  obtain ⟨s,vv,hs,rfl,rfl,pT,q,b2⟩:=hrel
  by_cases hsn:s<n9
  ·have hsn':(s:Int)<(n9:Int):=by omega
   have kLx:=kL wr b2 (stJ es s).1 (fun t=>by have:=St es t s;omega)
   have hl3:=HLs.out s hsn
   have HX:Hid (stJ es (s+1)=_):=HNx.out s
   have hll:=Rf es s
   have hbd:=fun t=>St es t s
   generalize ZQ (okN (Z8 es) (thE es) (stJ es s).1) (thE es) n9=l at *
   have pT9:=pT
   rw [Su] at pT9
   go_wp2_with (first | refine Zc rfl 142 _ rfl gT rfl pT9 _ Tryz.underlying142 rfl (by kernel_rfl) ?_)
   refine kLx.mono ?_
   rintro e w3 ⟨rfl,hb⟩
   have pT3:=pT.below hb
   have q3:=Ze q hb
   have b3:=Zb b2 hb
   clear kLx hb pT pT9 q b2
   have ht9:(l:Int)<3:=by omega
   have ht8:(0:Int)≤(l:Int):=by omega
   have c0:=(pT3.cell l).trans (Wu _ hl3)
   have f0:=pT3.frozen l
   have hft:=hbd l
   have pT4:Hid (Blk (w3.setCell ⟨gT,l,none⟩ (.int .i64 (((stJ es s).1 l:Nat)+1:Int))) gT 142 (tab 3 fun u=>.int .i64 ((stJ es (s+1)).1 u:Nat))):=by
    have:=pT3.set l (.int .i64 (((stJ es s).1 l:Nat)+1:Int))
    rw [TW] at this
    unfold Hid
    rw [HX.out]
    refine this.trans ?_
    congr 3
    refine XI (fun u _=>?_)
    by_cases e:u=l
    ·subst e;simp
    simp [e]
   have gs:w3.grownBy (w3.setCell ⟨gT,l,none⟩ (.int .i64 (((stJ es s).1 l:Nat)+1:Int))) (some gT):=⟨rfl,rfl,rfl,by simp,fun i _ hr=>Below.heap_setCell w3 ⟨gT,l,none⟩ _ i (fun e=>hr (by rw [e]))⟩
   have q4:=q3.kept gs (.inr (Z4 q3 pT3 (by decide)))
   have b4:=b3.grown gs b3.size (fun x hx=>by cases hx;exact hgTw)
   have hsz:=b4.size
   clear pT3 q3 b3 gs
   obtain ⟨wx,hwx⟩:∃ wx,wx=w3.setCell ⟨gT,l,none⟩ (.int .i64 (((stJ es s).1 l:Nat)+1:Int)):=⟨_,rfl⟩
   rw [← hwx] at pT4 q4 b4 hsz
   have HW:Hid (wx=w3.setCell ⟨gT,l,none⟩ (.int .i64 (((stJ es s).1 l:Nat)+1:Int))):=hwx
   have HZ:Hid (w3.heap.size=wx.heap.size):=by rw [Hid,hwx];simp
   clear hwx
   go_wp2_with (at_builtin;rw [← HW.out];(try rw [HZ.out]);refine wpList_append_own _ rfl _ _ 72 rfl w2.heap.size 3 i1 (.int .i64 0) 1 8 Tryz.underlying72 hi hz3 hz4 hz5 rfl (by decide) _ _ _ rfl (q4.alloc _) ⟨wx.heap.size,0,none⟩ 1 1 [.int .i64 (l:Int)] rfl rfl (cell_one_new _ _ _) (by simp [Value.oneCell']) ?c3 ?c4 ?c5 ?_)
   case c3=>unfold maxLen;omega
   case c4=>omega
   case c5=>simp;omega
   intro v' wn hown' hgrow hx9
   clear hx9
   have ha:Below wx.heap.size wx (wx.alloc (.cells #[.int .i64 (l:Int)] 3)):=by go_grown
   have R:wn.ownsRow w2.heap.size 3 1 v' (s+1) (((stJ es (s+1)).2.map (fun t:Nat=>(t:Int))).map (Value.int .i64)):=by
    rw [HX.out]
    simp only [List.map_append,List.map_map,List.map_cons,List.map_nil,Function.comp_apply]
    exact hown'
   have qa:=Ze q4 ha
   have st2:JE w2 wn gT es (s+1) v':=by
    have pTa:=pT4.out.below ha
    exact ⟨pTa.kept hgrow (Z4 qa pTa (by decide)),R,(Zb b4 ha).grown hgrow (Nat.le_trans hsz ha.size) (fun x hx=>(q4.lt x hx).1)⟩
   clear hown' hgrow R qa ha q4 pT4 b4
   go_wp2
   go_roundw
   case rel=>exact ⟨s+1,_,by omega,rfl,by go_num,st2⟩
   case measure=>simp [intOf];omega
  obtain rfl:s=n9:=by omega
  have HE:Hid ((stJ es s).2.map (fun t:Nat=>(t:Int))=V5 es):=by
   have:=PW hI
   rw [← HL.out] at this
   exact this
  have hl9:(V5 es).length=s:=by rw [← HE.out,List.length_map,Rf]
  rw [HE.out] at q
  have q9:=ZY (B':=w1.heap.size) q bw2.size
  have b9:=Zb bw2 b2
  clear pT q
  go_wp2
  go_ret
  exact ⟨⟨_,rfl,by rw [hl9];exact q9⟩,b9⟩


def rnF (rows:List (List I3)):Nat→V4→List (List Int)
 | 0,_=>[]
 | f+1,m=>if Zj rows m 3=[] then [[]] else ((Zj rows m 3).map fun k=>(rnF rows f (goM rows m k).1).map (k::·)).flatten
theorem H6 {rows:List (List I3)}:∀ (f:Nat) (m:V4) (ks:List Int),ks ∈ rnF rows f m→(ZE rows m [] ks).2.2=0∧Zj rows (ZE rows m [] ks).1 3=[]
 | 0,_,_,h=>by simp [rnF] at h
 | f+1,m,ks,h=>by
  rw [rnF] at h
  split at h
  ·rename_i he
   rw [List.mem_singleton] at h
   subst h
   exact ⟨rfl,he⟩
  obtain ⟨l,hl,hk⟩:=List.mem_flatten.1 h
  obtain ⟨k,hke,rfl⟩:=List.mem_map.1 hl
  obtain ⟨ks',hks,rfl⟩:=List.mem_map.1 hk
  have hz:=Ya hke
  rw [Xr hz]
  exact H6 f _ _ hks
theorem LD {rows:List (List I3)} (hp:Zn rows=true):∀ (f:Nat) (m:V4),Zk m=true→YC rows m<f→∃ ks,ks ∈ rnF rows f m
 | 0,_,_,h=>absurd h (Nat.not_lt_zero _)
 | f+1,m,hs,hf=>by
  rw [rnF]
  split
  ·exact ⟨[],List.mem_singleton.2 rfl⟩
  rename_i hne
  obtain ⟨k,hk⟩:=List.exists_mem_of_ne_nil _ hne
  have hz:=Ya hk
  have:=YX hp hs hz
  obtain ⟨ks,hks⟩:=LD hp f (goM rows m k).1 (ZV hp hs hz) (by omega)
  exact ⟨k::ks,List.mem_flatten.2 ⟨_,List.mem_map.2 ⟨k,hk,rfl⟩,List.mem_map.2 ⟨ks,hks,rfl⟩⟩⟩
def ddG (out:List (List Int)) (x:List Int):List (List Int):=if x ∈ out then out else out++[x]
def XY (o:List (List Int) × Bool) (x:List Int):List (List Int) × Bool:=if o.2 then (if x ∈ o.1 then o else (o.1++[x],decide (o.1.length<300))) else o
theorem Lh:∀ (xs out:List (List Int)),out.length≤(xs.foldl ddG out).length
 | [],_=>Nat.le_refl _
 | x::xs,out=>by
  refine Nat.le_trans ?_ (Lh xs (ddG out x))
  unfold ddG
  split
  ·exact Nat.le_refl _
  simp
theorem Tg:∀ (xs out:List (List Int)),xs.foldl XY (out,false)=(out,false)
 | [],_=>rfl
 | x::xs,out=>Tg xs out
theorem Mq:∀ (xs out:List (List Int)),out.length≤300→((xs.foldl XY (out,true)).2=true→(xs.foldl XY (out,true)).1=xs.foldl ddG out∧(xs.foldl ddG out).length≤300)∧((xs.foldl XY (out,true)).2=false→300<(xs.foldl ddG out).length)
 | [],out,h=>⟨fun _=>⟨rfl,h⟩,fun e=>by simp at e⟩
 | x::xs,out,h=>by
  rw [List.foldl_cons,List.foldl_cons]
  by_cases hx:x ∈ out
  ·rw [show XY (out,true) x=(out,true) by simp [XY,hx],show ddG out x=out by simp [ddG,hx]]
   exact Mq xs out h
  by_cases h3:out.length<300
  ·rw [show XY (out,true) x=(out++[x],true) by simp [XY,hx,h3],show ddG out x=out++[x] by simp [ddG,hx]]
   exact Mq xs _ (by simp;omega)
  rw [show XY (out,true) x=(out++[x],false) by simp [XY,hx,h3],show ddG out x=out++[x] by simp [ddG,hx],Tg]
  refine ⟨fun e=>by simp at e,fun _=>?_⟩
  have:=Lh xs (out++[x])
  simp at this
  omega
theorem Pw {x:List Int}:∀ {xs out:List (List Int)},x ∈ xs.foldl ddG out↔x ∈ out∨x ∈ xs
 | [],_=>by simp
 | y::xs,out=>by
  rw [List.foldl_cons,Pw (xs:=xs)]
  unfold ddG
  split
  ·rename_i h
   constructor
   ·rintro (q | q)<;>simp [q]
   rintro (q | q)
   ·exact .inl q
   rcases List.mem_cons.1 q with rfl | q
   ·exact .inl h
   exact .inr q
  simp only [List.mem_append,List.mem_cons,List.not_mem_nil,or_false]
  constructor
  ·rintro ((q | q) | q)<;>simp [q]
  rintro (q | q | q)<;>simp [q]
theorem Nc:∀ (xs out:List (List Int)),out.Nodup→(xs.foldl ddG out).Nodup
 | [],_,h=>h
 | x::xs,out,h=>by
  rw [List.foldl_cons]
  refine Nc xs _ ?_
  unfold ddG
  split
  ·exact h
  rename_i hx
  rw [List.nodup_append]
  refine ⟨h,by simp,fun a ha b hb=>?_⟩
  rw [List.mem_singleton] at hb
  subst hb
  exact fun e=>hx (e▸ha)
noncomputable def nfG (rows:List (List I3)) (ks:List Int):List Int:=V5 (YK rows Zl ks)
noncomputable def W8 (rows:List (List I3)):List (List Int):=((rnF rows 19 Zl).map (nfG rows)).foldl ddG []
theorem FO {rows:List (List I3)} {ks ks':List Int} (h:(ZE rows Zl [] ks).2.2=0) (e:Eq7 rows Zl ks ks'):nfG rows ks=nfG rows ks':=
 G4 (FP (PO (WF ks Zl [] h)).1 e.2.2.1) (PO (WF ks' Zl [] e.1)).1
theorem GP {rows:List (List I3)} (hp:Zn rows=true) (h5:(UD rows).2.2≤5000):1≤(W8 rows).length∧(W8 rows).length≤(UD rows).2.1:=by
 have hl:=S8 hp Zl
 obtain ⟨a1,_,_⟩:=LY hp 19 Zl [] ([],0,0) h5 (by omega) ZH
 have d:(UD rows).2.1=(lvF rows 19 Zl []).length:=by unfold UD;rw [a1];simp
 refine ⟨?_,?_⟩
 ·obtain ⟨ks,hks⟩:=LD hp 19 Zl ZH (by omega)
  have:nfG rows ks ∈ W8 rows:=Pw.2 (.inr (List.mem_map.2 ⟨ks,hks,rfl⟩))
  exact List.length_pos_of_mem this
 rw [d]
 suffices h:(W8 rows).length≤((lvF rows 19 Zl []).map (nfG rows)).length by rwa [List.length_map] at h
 refine RT _ _ (Nc _ _ List.nodup_nil) (fun x hx=>?_)
 rcases Pw.1 hx with hx | hx
 ·simp at hx
 obtain ⟨ks,hks,rfl⟩:=List.mem_map.1 hx
 obtain ⟨hr,he⟩:=H6 19 Zl ks hks
 obtain ⟨ks',hk',e⟩:=Hj hp 19 Zl [] ks ZH (by omega) hr he (fun j hj=>by simp at hj)
 exact List.mem_map.2 ⟨ks',hk',(FO hr e).symm⟩


noncomputable def WS (rows:List (List I3)) (f:Nat) (m:V4) (ls:List Int) (o:List (List Int) × Bool):List (List Int) × Bool:=((rnF rows f m).map fun ks=>nfG rows (ls++ks)).foldl XY o
noncomputable def Qq (rows:List (List I3)) (f:Nat) (m:V4) (ls:List Int) (es:List Int) (o:List (List Int) × Bool):List (List Int) × Bool:=es.foldl (fun o k=>WS rows f (goM rows m k).1 (ls++[k]) o) o
theorem GV {rows:List (List I3)} {f:Nat} {m:V4} {ls:List Int} {o:List (List Int) × Bool} (h:Zj rows m 3=[]):WS rows (f+1) m ls o=XY o (nfG rows ls):=by
 unfold WS
 rw [rnF,if_pos h]
 simp
theorem No {rows:List (List I3)} {f:Nat} {m:V4} {ls:List Int}:∀ (es:List Int) (o:List (List Int) × Bool),(((es.map fun k=>(rnF rows f (goM rows m k).1).map (k::·)).flatten).map fun ks=>nfG rows (ls++ks)).foldl XY o=Qq rows f m ls es o
 | [],o=>rfl
 | k::es,o=>by
  rw [List.map_cons,List.flatten_cons,List.map_append,List.foldl_append,No es]
  unfold Qq WS
  rw [List.foldl_cons,List.map_map]
  congr 2
  simp [Function.comp_def]
theorem FG {rows:List (List I3)} {f:Nat} {m:V4} {ls:List Int} {o:List (List Int) × Bool} (h:Zj rows m 3≠[]):WS rows (f+1) m ls o=Qq rows f m ls (Zj rows m 3) o:=by
 rw [← No]
 unfold WS
 rw [rnF,if_neg h]
theorem J0 {rows:List (List I3)} {f:Nat} {m:V4} {ls:List Int} (out:List (List Int)):WS rows f m ls (out,false)=(out,false):=Tg _ _
theorem Uq {rows:List (List I3)} {f:Nat} {m:V4} {ls:List Int} (out:List (List Int)):∀ es:List Int,Qq rows f m ls es (out,false)=(out,false)
 | []=>rfl
 | k::es=>by
  unfold Qq
  rw [List.foldl_cons,J0]
  exact Uq out es
theorem Kk {rows:List (List I3)} {f:Nat} {m:V4} {ls es:List Int} {k:Int} {o:List (List Int) × Bool}:Qq rows f m ls (k::es) o=Qq rows f m ls es (WS rows f (goM rows m k).1 (ls++[k]) o):=rfl
theorem Rl:∀ (xs out:List (List Int)),out.length≤300→(xs.foldl XY (out,true)).1.length≤301∧((xs.foldl XY (out,true)).2=true→(xs.foldl XY (out,true)).1.length≤300)
 | [],out,h=>⟨by simp;omega,fun _=>h⟩
 | x::xs,out,h=>by
  rw [List.foldl_cons]
  by_cases hx:x ∈ out
  ·rw [show XY (out,true) x=(out,true) by simp [XY,hx]]
   exact Rl xs out h
  by_cases h3:out.length<300
  ·rw [show XY (out,true) x=(out++[x],true) by simp [XY,hx,h3]]
   exact Rl xs _ (by simp;omega)
  rw [show XY (out,true) x=(out++[x],false) by simp [XY,hx,h3],Tg]
  exact ⟨by simp;omega,fun e=>by simp at e⟩
theorem JZ {rows:List (List I3)} {f:Nat} {m:V4} {ls:List Int} {out:List (List Int)} (h:out.length≤300):(WS rows f m ls (out,true)).1.length≤301∧((WS rows f m ls (out,true)).2=true→(WS rows f m ls (out,true)).1.length≤300):=Rl _ _ h
theorem GU (rows:List (List I3)):((WS rows 19 Zl [] ([],true)).2=true→(WS rows 19 Zl [] ([],true)).1=W8 rows∧(W8 rows).length≤300)∧((WS rows 19 Zl [] ([],true)).2=false→300<(W8 rows).length):=by
 have h:=Mq ((rnF rows 19 Zl).map (nfG rows)) [] (by simp)
 exact h


def VO (s:ByteArray):Nat→List Nat→Nat→Prop
 | p,[],q=>q=p
 | p,z::zs,q=>∃ k,Num s p z k∧VO s (p+k) zs q
theorem UI {s:ByteArray}:∀ {zs ys:List Nat} {p q r:Nat},VO s p zs q→VO s p ys r→zs.length≤ys.length→∃ rest,ys=zs++rest∧VO s q rest r
 | [],ys,p,q,r,h,g,_=>by
  obtain rfl:q=p:=h
  exact ⟨ys,rfl,g⟩
 | z::zs,[],_,_,_,_,_,hl=>by simp at hl
 | z::zs,y::ys,p,q,r,h,g,hl=>by
  obtain ⟨j,hj,hr⟩:=h
  obtain ⟨k,hk,gr⟩:=g
  obtain ⟨rfl,rfl⟩:=hj.only hk
  obtain ⟨rest,rfl,h'⟩:=UI hr gr (by simpa using hl)
  exact ⟨rest,rfl,h'⟩
def Rg (s:ByteArray) (zs:List Nat):Prop:=∃ k,Num s 0 zs.length k∧zs.length≤4096∧VO s k zs s.size
theorem Rg.only {s:ByteArray} {zs ys:List Nat} (h:Rg s zs) (g:Rg s ys):zs=ys:=by
 obtain ⟨k,hk,_,hz⟩:=h
 obtain ⟨j,hj,_,hy⟩:=g
 obtain ⟨hl,rfl⟩:=hk.only hj
 obtain ⟨rest,rfl,_⟩:=UI hz hy (by omega)
 have:rest=[]:=by
  have e:=hl
  simp at e
  exact e
 rw [this,List.append_nil]
theorem KP {s:ByteArray} {n k q:Nat} {zs:List Nat} (h:Num s 0 n k) (hn:n≤4096) (hz:VO s k zs q) (hl:zs.length=n) (hq:q=s.size):Rg s zs:=by
 subst hl hq
 exact ⟨k,h,hn,hz⟩


def Vu (s:ByteArray) (p:Nat) (xs:List Int):Prop:=p+xs.length≤s.size∧∀ i,i<xs.length→(bt s (p+i):Int)=xs.getD i 0
theorem Tm {s:ByteArray} {p:Nat} {xs ys:List Int} (h:Vu s p (xs++ys)):Vu s p xs:=by
 obtain ⟨h1,h2⟩:=h
 rw [List.length_append] at h1
 refine ⟨by omega,fun i hi=>?_⟩
 rw [h2 i (by rw [List.length_append];omega)]
 simp [List.getD,List.getElem?_append_left hi]
theorem UF {s:ByteArray} {p:Nat} {xs ys:List Int} (h:Vu s p (xs++ys)):Vu s (p+xs.length) ys:=by
 obtain ⟨h1,h2⟩:=h
 rw [List.length_append] at h1
 refine ⟨by omega,fun i hi=>?_⟩
 have:=h2 (xs.length+i) (by rw [List.length_append];omega)
 rw [show p+xs.length+i=p+(xs.length+i) by omega,this]
 simp [List.getD,List.getElem?_append_right (show xs.length≤xs.length+i by omega)]

theorem Tx {s:ByteArray} {p n:Nat} (hn:n≤999999999) (h:Vu s p (YT n)):Num s p n (YT n).length:=by
 obtain ⟨hs,hb⟩:=h
 by_cases h1:n<128
 ·rw [UY h1] at hs hb ⊢
  have b0:=hb 0 (by simp)
  simp at b0 hs
  refine ⟨⟨by simp,by simp,by simpa using hs,fun i hi=>by simp at hi,by simp;omega⟩,by simp,?_,hn⟩
  simp only [List.length_cons,List.length_nil,val]
  omega
 by_cases h2:n<16384
 ·rw [Hy (by omega) h2] at hs hb ⊢
  have b0:=hb 0 (by simp)
  have b1:=hb 1 (by simp)
  simp at b0 b1 hs
  refine ⟨⟨by simp,by simp,by simpa using hs,fun i hi=>?_,?_⟩,?_,?_,hn⟩
  ·simp at hi;obtain rfl:i=0:=by omega
   simp;omega
  ·simp only [List.length_cons,List.length_nil,show p+(0+1+1) - 1=p+1 by omega];omega
  ·simp only [List.length_cons,List.length_nil,show p+(0+1+1) - 1=p+1 by omega];omega
  simp only [List.length_cons,List.length_nil,val];omega
 by_cases h3:n<2097152
 ·rw [Hz (by omega) h3] at hs hb ⊢
  have b0:=hb 0 (by simp)
  have b1:=hb 1 (by simp)
  have b2:=hb 2 (by simp)
  simp at b0 b1 b2 hs
  refine ⟨⟨by simp,by simp,by simpa using hs,fun i hi=>?_,?_⟩,?_,?_,hn⟩
  ·simp at hi
   have:i=0∨i=1:=by omega
   rcases this with rfl | rfl
   ·simp;omega
   omega
  ·simp only [List.length_cons,List.length_nil,show p+(0+1+1+1) - 1=p+2 by omega];omega
  ·simp only [List.length_cons,List.length_nil,show p+(0+1+1+1) - 1=p+2 by omega];omega
  simp only [List.length_cons,List.length_nil,val];omega
 by_cases h4:n<268435456
 ·rw [HJ (by omega) h4] at hs hb ⊢
  have b0:=hb 0 (by simp)
  have b1:=hb 1 (by simp)
  have b2:=hb 2 (by simp)
  have b3:=hb 3 (by simp)
  simp at b0 b1 b2 b3 hs
  refine ⟨⟨by simp,by simp,by simpa using hs,fun i hi=>?_,?_⟩,?_,?_,hn⟩
  ·simp at hi
   have:i=0∨i=1∨i=2:=by omega
   rcases this with rfl | rfl | rfl
   ·simp;omega
   ·omega
   omega
  ·simp only [List.length_cons,List.length_nil,show p+(0+1+1+1+1) - 1=p+3 by omega];omega
  ·simp only [List.length_cons,List.length_nil,show p+(0+1+1+1+1) - 1=p+3 by omega];omega
  simp only [List.length_cons,List.length_nil,val];omega
 rw [Fx (by omega)] at hs hb ⊢
 have b0:=hb 0 (by simp)
 have b1:=hb 1 (by simp)
 have b2:=hb 2 (by simp)
 have b3:=hb 3 (by simp)
 have b4:=hb 4 (by simp)
 simp at b0 b1 b2 b3 b4 hs
 refine ⟨⟨by simp,by simp,by simpa using hs,fun i hi=>?_,?_⟩,?_,?_,hn⟩
 ·simp at hi
  have:i=0∨i=1∨i=2∨i=3:=by omega
  rcases this with rfl | rfl | rfl | rfl
  ·simp;omega
  ·omega
  ·omega
  omega
 ·simp only [List.length_cons,List.length_nil,show p+(0+1+1+1+1+1) - 1=p+4 by omega];omega
 ·simp only [List.length_cons,List.length_nil,show p+(0+1+1+1+1+1) - 1=p+4 by omega];omega
 simp only [List.length_cons,List.length_nil,val];omega

def WM (zs:List Nat):List Int:=zs.flatMap fun z=>YT z
theorem VL {s:ByteArray}:∀ {zs:List Nat} {p:Nat},(∀ z ∈ zs,z≤999999999)→Vu s p (WM zs)→VO s p zs (p+(WM zs).length)
 | [],p,_,_=>by simp [WM,VO]
 | z::zs,p,hz,h=>by
  have e:WM (z::zs)=YT z++WM zs:=by simp [WM]
  rw [e] at h ⊢
  refine ⟨_,Tx (hz z (by simp)) (Tm h),?_⟩
  have:=VL (fun y hy=>hz y (by simp [hy])) (UF h)
  rw [List.length_append,← Nat.add_assoc]
  exact this

theorem FE (xs:List Int) (h:∀ x ∈ xs,0≤x∧x≤255) (i:Nat) (hi:i<xs.length):(bt (strOfNums xs) i:Int)=xs.getD i 0:=by
 have hs:i<(strOfNums xs).size:=by rw [strOfNums_size];exact hi
 unfold bt
 rw [dif_pos hs]
 have hx:=h xs[i] (List.getElem_mem hi)
 have e:((strOfNums xs)[i]'hs)=UInt8.ofNat xs[i].toNat:=by
  show (strOfNums xs).data[i]'(by simpa using hs)=_
  simp [strOfNums]
 rw [e]
 simp [List.getElem?_eq_getElem hi]
 omega
theorem P5 (xs:List Int) (h:∀ x ∈ xs,0≤x∧x≤255):Vu (strOfNums xs) 0 xs:=
 ⟨by rw [strOfNums_size];omega,fun i hi=>by rw [Nat.zero_add];exact FE xs h i hi⟩


theorem XZ (base m:Nat) (v:Value) (xs:List Int) (n:Nat) (w:World) (hn:n≤999999999) (hown:w.ownsRow base 5 1 v m (u8s xs)) (hb:base≤w.heap.size) (hm:m≤1099511627776) :
  Calls Tryz.prog 71 #[v,.int .i64 n] w fun e w'=>∃ v',e=.returned v'∧w'.ownsRow base 5 1 v' (m+(YT n).length) (u8s (xs++YT n))∧Below base w w':=by
 obtain ⟨i0,hi,hz0,hz1,hz2⟩:=info_parts PD
 go_enter Tryz.func71,Tryz.ntmps71
 go_wp2
 go_loopw [0,1] (fun sv si wr=>∃ (k:Nat) (ys:List Int),k≤999999999∧si=.int .i64 k∧wr.ownsRow base 5 1 sv (m+ys.length) (u8s (xs++ys))∧Hid (ys++YT k=YT n)∧Below base w wr) (fun _ si _=>(intOf si).toNat)
 case atStart=>exact ⟨n,[],hn,rfl,by simpa using hown,by simp [Hid],Below.refl _ _⟩
 case round =>
  obtain ⟨k,ys,hk,rfl,ho,HY,hbel⟩:=hrel
  have hlen:ys.length≤4:=by
   have h1:=congrArg List.length HY.out
   have h2:=V6 k
   have h3:=V6 n
   simp at h1;omega
  have hbw:base≤wr.heap.size:=by have:=hbel.size;omega
  by_cases hlt:128≤k
  ·go_wp2_with (at_builtin;refine wpList_append_own _ rfl _ _ 22 rfl base 5 i0 (.int .u8 0) 1 1 Tryz.underlying22 hi hz0 hz1 hz2 rfl (by decide) _ _ _ rfl (ho.alloc _) ⟨wr.heap.size,0,none⟩ 1 1 [.int .u8 ((k:Int) % 128+128)] rfl rfl (cell_one_new _ _ _) (UU _) ?c3 ?c4 ?c5 ?_)
   case c3=>unfold maxLen;omega
   case c4=>omega
   case c5=>simp;omega
   intro v' w1 hown' hgrow _
   have R:w1.ownsRow base 5 1 v' (m+(ys++[(k:Int) % 128+128]).length) (u8s (xs++(ys++[(k:Int) % 128+128]))):=by simpa [Nat.add_assoc] using hown'
   have hb1:Below base w w1:=(hbel.alloc hbw _).grown hgrow (by simp;omega) (fun j hj=>(ho.lt _ hj).1)
   clear hown' hgrow ho
   go_wp2
   go_roundw
   case rel=>exact ⟨k / 128,ys++[(k:Int) % 128+128],by omega,by go_num,R,by rw [Hid,List.append_assoc,List.singleton_append,← K5 hlt (by omega)];exact HY.out,hb1⟩
   case measure=>simp [intOf];omega
  go_wp2_with (at_builtin;refine wpList_append_own _ rfl _ _ 22 rfl base 5 i0 (.int .u8 0) 1 1 Tryz.underlying22 hi hz0 hz1 hz2 rfl (by decide) _ _ _ rfl (ho.alloc _) ⟨wr.heap.size,0,none⟩ 1 1 [.int .u8 (k:Int)] rfl rfl (cell_one_new _ _ _) (UU _) ?d3 ?d4 ?d5 ?_)
  case d3=>unfold maxLen;omega
  case d4=>omega
  case d5=>simp;omega
  intro v' w1 hown' hgrow _
  have hb1:Below base w w1:=(hbel.alloc hbw _).grown hgrow (by simp;omega) (fun j hj=>(ho.lt _ hj).1)
  have hp:YT n=ys++[(k:Int)]:=by rw [← HY.out,UY (by omega)]
  have R:w1.ownsRow base 5 1 v' (m+(YT n).length) (u8s (xs++YT n)):=by rw [hp];simpa [Nat.add_assoc] using hown'
  clear hown' hgrow ho hp HY
  go_wp2
  go_ret
  exact ⟨v',rfl,R,hb1⟩


theorem PP (n:Int) (w:World) (h:0≤n∧n≤999999999):Calls Tryz.prog 72 #[.int .i64 n] w fun e w'=>e=.returned (.bool true)∧w=w':=by
 obtain ⟨h1,h2⟩:=h
 go_enter Tryz.func72,Tryz.ntmps72
 go_wp2
 go_ret
 exact ⟨rfl,rfl⟩
theorem NQ (n:Int) (w:World) (h:¬ (0≤n∧n≤999999999)):Calls Tryz.prog 72 #[.int .i64 n] w fun e w'=>e=.returned (.bool false)∧w=w':=by
 by_cases h1:0≤n
 ·have h2:decide (n≤999999999)=false:=by simp;omega
  clear h
  go_enter Tryz.func72,Tryz.ntmps72
  go_wp2
  go_ret
  exact ⟨rfl,rfl⟩
 clear h
 go_enter Tryz.func72,Tryz.ntmps72
 go_wp2
 go_ret
 exact ⟨rfl,rfl⟩


def SA (zs:List Int):Prop:=∀ z ∈ zs,0≤z∧z≤999999999
def Wo (zs:List Int):List Int:=zs.flatMap fun z=>YT z.toNat
def R2 (zs:List Int):List Int:=YT zs.length++Wo zs

theorem Sh:∀ zs:List Int,(Wo zs).length≤5*zs.length
 | []=>by simp [Wo]
 | z::zs=>by
  have h:=Sh zs
  have h2:=(V6 z.toNat).2
  simp only [Wo,List.flatMap_cons,List.length_append,List.length_cons] at h ⊢
  omega
theorem MT (zs:List Int) (k:Nat) (h:k<zs.length):Wo (zs.take (k+1))=Wo (zs.take k)++YT (zs.getD k 0).toNat:=by
 have g:zs.getD k 0=zs[k]:=by simp [List.getElem?_eq_getElem h]
 rw [g,List.take_succ_eq_append_getElem h]
 unfold Wo
 rw [List.flatMap_append]
 simp only [List.flatMap_cons,List.flatMap_nil,List.append_nil]
theorem J1 {zs:List Int} {k:Nat} (h:k<zs.length):zs.getD k 0 ∈ zs:=by
 simp [List.getElem?_eq_getElem h]


theorem Lq {zs:List Int} (h:∀ z ∈ zs,0≤z∧z≤999999999):∃ ns:List Nat,zs=ns.map (fun z:Nat=>(z:Int))∧∀ n ∈ ns,n≤999999999:=by
 refine ⟨zs.map Int.toNat,?_,?_⟩
 ·rw [List.map_map]
  conv=>lhs;rw [← List.map_id zs]
  apply List.map_congr_left
  intro z hz
  have:=h z hz
  simp only [id,Function.comp]
  omega
 intro n hn
 obtain ⟨z,hz,rfl⟩:=List.mem_map.1 hn
 have:=h z hz
 omega
theorem R3 (ns:List Nat):R2 (ns.map (fun z:Nat=>(z:Int)))=YT ns.length++WM ns:=by
 unfold R2 Wo WM
 rw [List.length_map]
 congr 1
 induction ns with
 | nil=>rfl
 | cons n ns ih=>simp [List.flatMap_cons,ih]
theorem NW {ns:List Nat} (h:∀ n ∈ ns,n≤999999999):∀ x ∈ WM ns,0≤x∧x≤255:=by
 intro x hx
 obtain ⟨n,hn,hx⟩:=List.mem_flatMap.1 hx
 exact Q1 n (by have:=h n hn;omega) x hx
theorem MS {ns:List Nat} (h:∀ n ∈ ns,n≤999999999) (hl:ns.length≤4096):∀ x ∈ YT ns.length++WM ns,0≤x∧x≤255:=by
 intro x hx
 rcases List.mem_append.1 hx with hx | hx
 ·exact Q1 _ (by omega) x hx
 exact NW h x hx
theorem SG {ns:List Nat} (h:∀ n ∈ ns,n≤999999999) (hl:ns.length≤4096):Rg (strOfNums (YT ns.length++WM ns)) ns:=by
 have hb:=P5 _ (MS h hl)
 have hn:=Tx (by omega) (Tm hb)
 refine KP hn hl (VL h ?_) rfl ?_
 ·simpa using UF hb
 rw [strOfNums_size,List.length_append]


theorem K0 {zs:List Int} {k:Nat} (h:SA (zs.take k)) (hk:k<zs.length) (hx:0≤zs.getD k 0∧zs.getD k 0≤999999999):SA (zs.take (k+1)):=by
 have g:zs.getD k 0=zs[k]:=by simp [List.getElem?_eq_getElem hk]
 rw [List.take_succ_eq_append_getElem hk]
 intro z hz
 rcases List.mem_append.1 hz with hz | hz
 ·exact h z hz
 simp at hz;subst hz;rw [← g];exact hx
theorem K1 (zs:List Int):SA (zs.take 0):=by intro z hz;simp at hz

theorem T7 (a:Option Addr) (len cap:Nat) (zs:List Int) (w:World) (h:YS .i64 w a len cap zs) (hlen:len≤4096) :
  Calls Tryz.prog 30 #[.slice a len cap] w fun e w'=>((SA zs∧e=.returned (.tuple #[.string (strOfNums (R2 zs)),.int .i64 0]))∨(¬ SA zs∧e=.returned (.tuple #[.string ByteArray.empty,.int .i64 4])))∧Below w.heap.size w w':=by
 obtain ⟨hl,hlc,hcm,hcase⟩:=h
 unfold maxLen at hcm
 rcases hcase with h0 | ⟨b,off,rfl,hblt,hcell⟩
 ·subst h0
  have hz:zs=[]:=by simpa using hl
  subst hz
  go_enter Tryz.func30,Tryz.ntmps30
  go_wp2_with fail
  refine (XZ w.heap.size 0 _ [] 0 _ (by omega) (World.ownsRow_nil _ _ _ _) (Nat.le_refl _) (by omega)).mono ?_
  rintro e w1 ⟨v',rfl,hown,hbel⟩
  have hcv:=Vy hown
  clear hown
  rw [List.nil_append] at hcv
  go_wp2
  refine wp_loop_rounds 1 ?_
  rw [rounds_succ]
  go_wp2
  go_ret2
  exact ⟨.inl ⟨(fun z hz=>by cases hz),rfl⟩,hbel⟩
 go_enter Tryz.func30,Tryz.ntmps30
 go_wp2_with fail
 refine (XZ w.heap.size 0 _ [] len _ (by omega) (World.ownsRow_nil _ _ _ _) (Nat.le_refl _) (by omega)).mono ?_
 rintro e w1 ⟨v',rfl,hown,hb1⟩
 rw [List.nil_append,Nat.zero_add] at hown
 go_wp2
 go_loopw [4,15] (fun sv si wr=>∃ k:Nat,k≤len∧si=.int .i64 k∧SA (zs.take k)∧wr.ownsRow w.heap.size 5 1 sv (YT len++Wo (zs.take k)).length (u8s (YT len++Wo (zs.take k)))∧Below w.heap.size w wr) (fun _ si _=>len - (intOf si).toNat)
 case atStart=>exact ⟨0,by omega,rfl,K1 zs,by simpa [Wo] using hown,hb1⟩
 case round =>
  obtain ⟨k,hk,rfl,hto,ho,hbel⟩:=hrel
  by_cases hlt:k<len
  ·have hc:wr.cell? ⟨b,off+k,none⟩=some (.int .i64 (zs.getD k 0)):=by rw [hbel.cell (p:=⟨b,off+k,none⟩) hblt];exact hcell k hlt
   have hsn:=MT zs k (by omega)
   have hpl:=Sh (zs.take k)
   have hp5:=(V6 len).2
   have htl:(zs.take k).length≤4096:=by simp;omega
   have hm:(YT len++Wo (zs.take k)).length≤1099511627776:=by rw [List.length_append];omega
   by_cases hx:0≤zs.getD k 0∧zs.getD k 0≤999999999
   ·have hto':=K0 hto (by omega) hx
    generalize zs.getD k 0=x at hc hx hsn
    obtain ⟨n,rfl⟩:=Int.eq_ofNat_of_zero_le hx.1
    have hn:n≤999999999:=by omega
    rw [Int.toNat_natCast] at hsn
    have R:Hid (YT len++Wo (zs.take k)++YT n=YT len++Wo (zs.take (k+1))):=by rw [Hid,hsn,List.append_assoc]
    clear hsn hpl hp5 htl
    generalize YT len++Wo (zs.take k)=ys at ho hm R
    have hbw:=hbel.size
    go_wp2_with (first | (go_at_call 72;refine (PP _ _ hx).mono ?_;rintro e w' ⟨rfl,rfl⟩) | (go_at_call 71;refine (XZ w.heap.size _ _ ys n _ hn ho hbw hm).mono ?_;rintro e w2 ⟨v2,rfl,hown2,hb2⟩))
    rw [R.out,← List.length_append,R.out] at hown2
    go_roundw
    case rel=>exact ⟨k+1,by omega,by go_num,hto',hown2,hbel.trans hb2⟩
    case measure=>simp [intOf];omega
   have hbad:¬ SA zs:=fun h=>hx (h _ (J1 (by omega)))
   generalize zs.getD k 0=x at hc hx hsn
   clear hsn hpl hp5 htl hm ho
   go_wp2_with (go_at_call 72;refine (NQ _ _ hx).mono ?_;rintro e w' ⟨rfl,rfl⟩)
   go_ret2
   exact ⟨.inr ⟨hbad,rfl⟩,hbel⟩
  obtain rfl:k=len:=by omega
  rw [List.take_of_length_le (Nat.le_of_eq hl)] at hto ho
  have e:YT k++Wo zs=R2 zs:=by unfold R2;rw [hl]
  rw [e] at ho
  have hcv:=Vy ho
  clear ho
  go_wp2
  go_ret2
  exact ⟨.inl ⟨hto,rfl⟩,hbel⟩
end Go.Proofs.YtmhlokahmblboaaGreatDoor
