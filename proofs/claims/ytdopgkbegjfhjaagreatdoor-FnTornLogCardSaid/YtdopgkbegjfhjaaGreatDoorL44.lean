/-
  Joined: RciI, RcjI, RckI, RcoI, RclI, UnframeI, RcmI, Vars.
-/
import Derived.WalkSmall
import Derived.ChangeOld
import Derived.Test.YtdopgkbegjfhjaaGreatDoorL41
import Derived.Test.YtdopgkbegjfhjaaGreatDoorL43

namespace Go.Proofs.YtdopgkbegjfhjaaGreatDoor
set_option maxRecDepth 100000
set_option maxHeartbeats 16000000
open Go.RowKit
set_option linter.unusedVariables false
set_option linter.unusedSimpArgs false

theorem com_back13 {xs:List I3} (hr:riseB xs=true) (hl:xs.length≤30):ComOk (strOfNums (packL (unT xs))):=by
 obtain ⟨ns,en,mn⟩:=nats_of (unT_rise hr)
 have hlen:=unT_len xs
 have ln:ns.length=(unT xs).length:=by rw [en];simp
 have L:=listed_pack mn (by omega)
 rw [← packL_nats,← en] at L
 refine ⟨ns,L,by omega,by omega,?_⟩
 have e:triples (ofNats ns)=xs:=by
  rw [show ofNats ns=unT xs from en.symm]
  have:∀ ys:List I3,triples (unT ys)=ys:=by
   intro ys
   induction ys with
   | nil=>rfl
   | cons y ys ih =>
    show (y.1,y.2.1,y.2.2)::triples (unT ys)=_
    rw [ih]
  exact this xs
 rw [e]
 exact hr
theorem comC_yes {t:ByteArray} {zs:List Nat} (hL:Listed t zs) (h:ComOk t):comC (triples (ofNats zs))=(t,0):=by
 obtain ⟨ys,gL,g3,g9,gr⟩:=h
 obtain rfl:=gL.only hL
 have hl:(ofNats ys).length=ys.length:=List.length_map ..
 have:=triples_len9 (ys.length / 3) 0 (ofNats ys) (by omega) (by omega)
 unfold comC
 rw [if_neg (by omega),if_pos ⟨gr,by omega⟩,com_text hL g3]
theorem comC_back {t:ByteArray} {xs:List I3} (h:comC xs=(t,0)):ComOk t:=by
 unfold comC at h
 split at h
 ·injection h with _ h;cases h
 ·split at h
  ·rename_i hb
   injection h with h _
   rw [← h]
   exact com_back13 hb.1 hb.2
  ·injection h with _ h;cases h

theorem implCommitText_is (a:Option Addr) (n cap:Nat) (xs:List I3) (w:World) (h:Instrs w a n cap xs) :
  Calls Tryz.prog 73 #[.slice a n cap] w fun e w'=>e=ResC (comC xs)∧Below w.heap.size w w':=by
 have hl:=h.1
 have hcm:n≤9223372036854775807:=by have:=h.2.1;have:=h.2.2.1;unfold maxLen at this;omega
 have kE:=entryBugsOK_is a n cap xs w h
 by_cases hlong:4096<n
 ·have HA:Hid (comC xs=(⟨#[]⟩,2)):=by unfold comC;rw [Hid,if_pos (by omega)]
  have h2:(4096:Int)<(n:Int):=by omega
  clear h kE
  go_enter Tryz.func73,Tryz.ntmps73
  go_wp2
  go_ret2
  exact ⟨by rw [HA.out];rfl,Below.refl _ _⟩
 have h2:¬ (4096:Int)<(n:Int):=by omega
 by_cases hr:riseB xs=true∧n≤30
 ·have HA:Hid (comC xs=(strOfNums (packL (unT xs)),0)):=by unfold comC;rw [Hid,if_neg (by omega),if_pos ⟨hr.1,by omega⟩]
  have hd:(decide (xs.length≤30) && riseB xs)=true:=by rw [hr.1,hl,decide_eq_true hr.2];rfl
  rw [hd] at kE
  have kN:=fun W (hb:Below w.heap.size w W)=>numbersOfBugs_is a n cap xs W (h.below hb) hr.2
  have hok:allOk (rowNums xs):=by rw [unT_row];exact unT_rise hr.1
  have hrl:(rowNums xs).length≤4096:=by rw [rowNums_length];omega
  rw [← unT_row] at HA
  clear h hd hr
  go_enter Tryz.func73,Tryz.ntmps73
  go_wp2_with fail
  refine kE.mono ?_
  rintro e w1 ⟨rfl,b1⟩
  go_wp2_with fail
  refine (kN _ b1).mono ?_
  rintro e w2 ⟨⟨v,rfl,ho⟩,b2⟩
  obtain ⟨a2,c2,rfl⟩:∃ a2 c2,v=.slice a2 (rowNums xs).length c2:=by
   rcases ho.2 with ⟨hv,h0⟩ | ⟨g,cc,cur,hv,_⟩
   ·exact ⟨none,0,by rw [hv,h0]⟩
   ·exact ⟨_,_,hv⟩
  have hI:=ints8 ho
  have kP:=implPackList_any a2 _ c2 (rowNums xs) w2 hI hrl
  generalize (rowNums xs).length=m2 at *
  clear hI ho kE kN hrl
  go_wp2_with fail
  refine kP.mono ?_
  rintro e w3 ⟨hh,b3⟩
  rcases hh with ⟨_,rfl⟩ | ⟨hno,_⟩
  ·clear kP
   generalize strOfNums (packL (rowNums xs))=t at *
   go_wp2
   go_ret2
   exact ⟨by rw [HA.out];rfl,(b1.trans (b2.mono b1.size)).trans (b3.mono (Nat.le_trans b1.size b2.size))⟩
  ·exact absurd hok hno
 ·have HA:Hid (comC xs=(⟨#[]⟩,1)):=by unfold comC;rw [Hid,if_neg (by omega),if_neg (fun g=>hr ⟨g.1,by omega⟩)]
  have hd:(decide (xs.length≤30) && riseB xs)=false:=by
   rw [hl]
   by_cases g:n≤30
   ·rw [decide_eq_true g,Bool.true_and]
    cases hx:riseB xs
    ·rfl
    ·exact absurd ⟨hx,g⟩ hr
   ·rw [decide_eq_false g,Bool.false_and]
  rw [hd] at kE
  clear h hd hr
  go_enter Tryz.func73,Tryz.ntmps73
  go_wp2_with fail
  refine kE.mono ?_
  rintro e w1 ⟨rfl,b1⟩
  go_wp2
  go_ret2
  exact ⟨by rw [HA.out];rfl,b1⟩


def ContGot (r:R2) (e:Ending) (w':World):Prop:=∃ v,e=.returned v ∧
 ((v=.nilIface∧¬ RecOk r) ∨
  (∃ rows a n c,v=.iface 69 (.agg #[.slice a n c])∧r.1=1∧IsProg r.2 rows 0∧Codes w' a n c rows) ∨
  (∃ e s,v=.iface 74 (entV e.1 s)∧r.1=2∧RdOk r.2 e∧Emem w' s e) ∨
  (∃ zs a n c,v=.iface 72 (.slice a n c)∧r.1=3∧Listed r.2 zs∧Instrs w' a n c (triples (ofNats zs))))

theorem bugsOfText_is (t:ByteArray) (w:World) (ht:t.size≤65536) (hE:ErrType w) :
  Calls Tryz.prog 76 #[.string t] w fun e w'=>(∃ a n cap c,e=.returned (.tuple #[.slice a n cap,.int .i64 c])∧((c=0∧∃ zs,Listed t zs∧Instrs w' a n cap (triples (ofNats zs)))∨(c≠0∧NoList t)))∧Below w.heap.size w w':=by
 go_enter Tryz.func76,Tryz.ntmps76
 go_wp2_with fail
 refine (implUnpackList_any t w ht hE).mono ?_
 rintro e w1 ⟨⟨a,cap,zs,c,hU,rfl,hO⟩,b1⟩
 have hz4:=hU.len
 have HU:Hid (IsUnpacked t zs c):=hU
 have hI:=hO.ints
 have hl:(ofNats zs).length=zs.length:=List.length_map ..
 have kB:=bugsOf_any a zs.length cap (ofNats zs) (zs.length / 3) (zs.length % 3) w1 hI (by omega) (by omega) (by omega)
 have hsm:Hid (∀ x ∈ triples (ofNats zs),x.fits):=fun x hx=>by
  obtain ⟨m1,m2,m3⟩:=triples_mem _ x hx
  rcases HU.out with ⟨_,hL⟩ | ⟨_,hN,rfl⟩
  ·have hs:=listed_small9 hL
   exact ⟨wf_small9 (hs _ m1),wf_small9 (hs _ m2),wf_small9 (hs _ m3)⟩
  ·cases m1
 clear hI hO hU
 generalize zs.length=n at *
 go_wp2_with fail
 refine kB.mono ?_
 rintro e w2 ⟨⟨v,rfl,ho⟩,b2⟩
 obtain ⟨a2,c2,rfl,hI2⟩:=Instrs.of_ownB9 ho hsm.out
 clear kB ho
 generalize (triples (ofNats zs)).length=n2 at *
 have b9:=b1.trans (b2.mono b1.size)
 go_wp2
 go_ret2
 refine ⟨⟨a2,n2,c2,c,rfl,?_⟩,b9⟩
 rcases HU.out with ⟨rfl,hL⟩ | ⟨rfl,hN,rfl⟩
 ·exact .inl ⟨rfl,zs,hL,hI2⟩
 ·exact .inr ⟨by decide,hN⟩

theorem contentOf_is (r:R2) (w:World) (hz:r.2.size<1000) (hV:VmShape w) (hE:ErrType w) :
  Calls Tryz.prog 45 #[r.val] w fun e w'=>ContGot r e w'∧Below w.heap.size w w':=by
 obtain ⟨k,t⟩:=r
 simp only at hz
 have hB:=Blk.new w 24 [.int .i64 k,.string t]
 have b0:=bel_new w (.cells #[.int .i64 k,.string t] 24)
 have c0:=hB.cell 0
 have c1:=hB.cell 1
 simp only [List.getElem?_cons_zero,List.getElem?_cons_succ] at c0 c1
 have kP:=fun W hE=>implUnProg_any t W (by omega) hE
 have kR:=fun W hV hE=>implReadEntry_is t W (by omega) hV hE
 have kC:=fun W hE=>bugsOfText_is t W (by omega) hE
 replace hV:=hV.below b0
 replace hE:=hE.below b0
 clear hB
 unfold R2.val
 go_enter Tryz.func45,Tryz.ntmps45
 by_cases h1:k=1
 ·subst h1
  go_wp2_with fail
  refine (kP _ hE).mono ?_
  rintro e w1 ⟨⟨v,rows,c,hp,rfl,hf,hO⟩,b1⟩
  obtain ⟨a,cap,rfl⟩:=hO.slice
  have hC:=hO.codes hf
  generalize rows.length=n at *
  have b9:=belD b0 b1
  clear kP kR kC hV hE c0 c1 b0 b1 hO
  by_cases hc0:c=0
  ·subst hc0
   go_wp2
   go_ret
   exact ⟨⟨_,rfl,.inr (.inl ⟨rows,a,n,cap,rfl,rfl,hp,hC⟩)⟩,b9⟩
  ·have hcz:(c == 0)=false:=by simp [hc0]
   go_wp2
   go_ret
   refine ⟨⟨_,rfl,.inl ⟨rfl,fun hr=>?_⟩⟩,b9⟩
   rw [recOk_ver] at hr
   exact hc0 ((verOk_c hp).1 hr.1)
 by_cases h2:k=2
 ·subst h2
  go_wp2_with fail
  refine (kR _ hV hE).mono ?_
  rintro e w1 ⟨hg,b1⟩
  have b9:=belD b0 b1
  clear kP kR kC hV hE c0 c1 b0 b1
  rcases hg with ⟨x,s,hx,rfl,hO⟩ | ⟨hno,rfl⟩
  ·have hM:=hO.mem hx.fits
   clear hO
   go_wp2
   go_ret
   exact ⟨⟨_,rfl,.inr (.inr (.inl ⟨x,s,rfl,rfl,hx,hM⟩))⟩,b9⟩
  ·have hcz:(rdC t == 0)=false:=by unfold rdC;split<;>rfl
   have hcn:¬ rdC t=0:=by unfold rdC;split<;>omega
   generalize rdC t=c at *
   go_wp2
   go_ret
   refine ⟨⟨_,rfl,.inl ⟨rfl,fun hr=>?_⟩⟩,b9⟩
   rw [recOk_ent] at hr
   obtain ⟨⟨x,hx⟩,_⟩:=hr
   exact hno x hx
 by_cases h3:k=3
 ·subst h3
  go_wp2_with fail
  refine (kC _ hE).mono ?_
  rintro e w1 ⟨⟨a,n,cap,c,rfl,hg⟩,b1⟩
  have b9:=belD b0 b1
  clear kP kR kC hV hE c0 c1 b0 b1
  rcases hg with ⟨rfl,zs,hL,hI⟩ | ⟨hc0,hN⟩
  ·go_wp2
   go_ret
   exact ⟨⟨_,rfl,.inr (.inr (.inr ⟨zs,a,n,cap,rfl,rfl,hL,hI⟩))⟩,b9⟩
  ·have hcz:(c == 0)=false:=by simp [hc0]
   go_wp2
   go_ret
   refine ⟨⟨_,rfl,.inl ⟨rfl,fun hr=>?_⟩⟩,b9⟩
   rw [recOk_com] at hr
   exact comOk_no hN hr.1
 ·have d1:(k == 1)=false:=by simp [h1]
  have d2:(k == 2)=false:=by simp [h2]
  have d3:(k == 3)=false:=by simp [h3]
  clear kP kR kC hV hE
  go_wp2
  go_ret
  exact ⟨⟨_,rfl,.inl ⟨rfl,recOk_non h1 h2 h3⟩⟩,by go_grown⟩


theorem ta_yes {P:Program} {T:TypeId} {u:TypeDesc} (hu:P.underlying T=some u) (hn:∀ x,u≠.interface x) (v:Value) (xT:TypeId) (w:World):(Instr.typeAssert (.iface T v) xT T true).run P w=.ok (.tuple #[v,.bool true]) w:=by
 cases u<;>first | (exact absurd rfl (hn _)) | simp [Instr.typeAssert,run_underlying hu]
theorem ta_no {P:Program} {T S:TypeId} {u:TypeDesc} {z:Value} (hu:P.underlying S=some u) (hn:∀ x,u≠.interface x) (hT:T≠S) (hz:(P.info? S).map (·.zero)=some (some z)) (v:Value) (xT:TypeId) (w:World):(Instr.typeAssert (.iface T v) xT S true).run P w=.ok (.tuple #[z,.bool false]) w:=by
 obtain ⟨j,hj,hz'⟩:=Option.map_eq_some_iff.1 hz
 cases u<;>first | (exact absurd rfl (hn _)) | simp [Instr.typeAssert,run_underlying hu,hT,zeroValue,typeInfo,hj,hz']
theorem ta_nil {P:Program} {S:TypeId} {u:TypeDesc} {z:Value} (hu:P.underlying S=some u) (hn:∀ x,u≠.interface x) (hz:(P.info? S).map (·.zero)=some (some z)) (xT:TypeId) (w:World):(Instr.typeAssert .nilIface xT S true).run P w=.ok (.tuple #[z,.bool false]) w:=by
 obtain ⟨j,hj,hz'⟩:=Option.map_eq_some_iff.1 hz
 cases u<;>first | (exact absurd rfl (hn _)) | simp [Instr.typeAssert,run_underlying hu,zeroValue,typeInfo,hj,hz']
theorem uP:(∃ u,Tryz.prog.underlying 69=some u∧∀ x,u≠.interface x):=⟨_,Tryz.underlying69,fun x h=>by cases h⟩
theorem uE:(∃ u,Tryz.prog.underlying 74=some u∧∀ x,u≠.interface x):=⟨_,Tryz.underlying74,fun x h=>by cases h⟩
theorem uB:(∃ u,Tryz.prog.underlying 72=some u∧∀ x,u≠.interface x):=⟨_,Tryz.underlying72,fun x h=>by cases h⟩
theorem zP:(Tryz.prog.info? 69).map (·.zero)=some (some (.agg #[.slice none 0 0])):=by kernel_rfl
theorem zE:(Tryz.prog.info? 74).map (·.zero)=some (some (.agg #[.string ⟨#[]⟩,.slice none 0 0,.slice none 0 0])):=by kernel_rfl
theorem zB:(Tryz.prog.info? 72).map (·.zero)=some (some (.slice none 0 0)):=by kernel_rfl

theorem inj13 {a b:ByteArray} (h:a.toList=b.toList):a=b:=by
 rw [ByteArray.toList_eq,ByteArray.toList_eq] at h
 exact ByteArray.ext (Array.ext' h)

def AgainGot (r:R2) (e:Ending):Prop:=∃ (x:ByteArray) (c:Int),e=.returned (.tuple #[.string x,.int .i64 c])∧((c=0∧x=r.2)↔RecOk r)

theorem textOfContent_is (r:R2) (v:Value) (w:World) (hz:r.2.size<1000) (h:ContGot r (.returned v) w) (hV:VmShape w) :
  Calls Tryz.prog 44 #[v] w fun e w'=>AgainGot r e∧Below w.heap.size w w':=by
 obtain ⟨k,t⟩:=r
 simp only at hz
 obtain ⟨uP,hP,nP⟩:=uP
 obtain ⟨uE,hE,nE⟩:=uE
 obtain ⟨uB,hB,nB⟩:=uB
 obtain ⟨v',e,h⟩:=h
 obtain rfl:v=v':=by injection e
 clear e
 rcases h with ⟨rfl,hno⟩ | ⟨rows,a,n,c,rfl,hk,hp,hC⟩ | ⟨x,s,rfl,hk,hx,hM⟩ | ⟨zs,a,n,c,rfl,hk,hL,hI⟩
 ·have t1:=ta_nil hP nP zP
  have t2:=ta_nil hE nE zE
  have t3:=ta_nil hB nB zB
  go_enter Tryz.func44,Tryz.ntmps44
  go_wp2
  go_ret2
  exact ⟨⟨_,3,rfl,⟨fun h=>absurd h.1 (by decide),fun h=>absurd h hno⟩⟩,Below.refl _ _⟩
 ·obtain rfl:k=1:=hk
  obtain ⟨ho,ht⟩:=ver_text hp
  have hr:RecOk (1,t):=recOk_ver.2 ⟨⟨rows,hp⟩,hz⟩
  have t1:=ta_yes hP nP (.agg #[.slice a n c])
  have b0:=bel_new w (.cells #[.slice a n c] 69)
  have kP:=implPack_ok a n c rows _ (hC.below b0) ho
  clear hC
  go_enter Tryz.func44,Tryz.ntmps44
  go_wp2_with fail
  refine kP.mono ?_
  rintro e w1 ⟨rfl,b1⟩
  rw [ht]
  have b9:=belD b0 b1
  clear kP b0 b1
  go_wp2
  go_ret2
  exact ⟨⟨t,0,rfl,fun _=>hr,fun _=>⟨rfl,rfl⟩⟩,b9⟩
 ·obtain rfl:k=2:=hk
  obtain ⟨ho,ht⟩:=ent_text hx
  have hr:RecOk (2,t):=recOk_ent.2 ⟨⟨x,hx⟩,hz⟩
  have t1:=ta_no (T:=74) hP nP (by decide) zP (entV x.1 s)
  have t2:=ta_yes hE nE (entV x.1 s)
  have b0:=bel_new w (.cells (entC x.1 s).toArray 74)
  have kP:=implEntryText_is x s _ (hM.below b0) (hV.below b0)
  rw [show etxT x=t from by unfold etxT;rw [if_pos ho];exact ht,show etxC x=0 from by unfold etxC;rw [if_pos ho]] at kP
  clear hM
  unfold entV entC at *
  go_enter Tryz.func44,Tryz.ntmps44
  go_wp2_with fail
  refine kP.mono ?_
  rintro e w1 ⟨rfl,b1⟩
  have b9:=belD b0 b1
  clear kP b0 b1
  go_wp2
  go_ret2
  exact ⟨⟨t,0,rfl,fun _=>hr,fun _=>⟨rfl,rfl⟩⟩,b9⟩
 ·obtain rfl:k=3:=hk
  have t1:=ta_no (T:=72) hP nP (by decide) zP (.slice a n c)
  have t2:=ta_no (T:=72) hE nE (by decide) zE (.slice a n c)
  have t3:=ta_yes hB nB (.slice a n c)
  have kP:=implCommitText_is a n c _ w hI
  have hq:Hid ((comC (triples (ofNats zs))).2=0∧(comC (triples (ofNats zs))).1=t↔RecOk (3,t)):=by
   constructor
   ·rintro ⟨h1,h2⟩
    exact recOk_com.2 ⟨comC_back (Prod.ext h2 h1),hz⟩
   ·intro hr
    rw [comC_yes hL (recOk_com.1 hr).1]
    exact ⟨rfl,rfl⟩
  clear hI
  unfold ResC at kP
  generalize comC (triples (ofNats zs))=R at *
  obtain ⟨x,d⟩:=R
  simp only at kP
  go_enter Tryz.func44,Tryz.ntmps44
  go_wp2_with fail
  refine kP.mono ?_
  rintro e w1 ⟨rfl,b1⟩
  clear kP
  go_wp2
  go_ret2
  exact ⟨⟨x,d,rfl,hq.out⟩,b1⟩

theorem implRecordOK_is (r:R2) (w:World) (hz:r.2.size≤1048576) (hV:VmShape w) (hE:ErrType w) :
  Calls Tryz.prog 18 #[r.val] w fun e w'=>e=.returned (.bool (recB r))∧Below w.heap.size w w':=by
 obtain ⟨k,t⟩:=r
 simp only at hz
 have hB:=Blk.new w 24 [.int .i64 k,.string t]
 have b0:=bel_new w (.cells #[.int .i64 k,.string t] 24)
 have c0:=hB.cell 0
 have c1:=hB.cell 1
 simp only [List.getElem?_cons_zero,List.getElem?_cons_succ] at c0 c1
 replace hV:=hV.below b0
 replace hE:=hE.below b0
 by_cases h9:999<t.size
 ·have HC:Hid (recB (k,t)=false):=recB_no (fun h=>by have:=h.1;simp only at this;omega)
  have h2:(999:Int)<(t.size:Int):=by omega
  clear hV hE hB
  unfold R2.val
  go_enter Tryz.func18,Tryz.ntmps18
  go_wp2
  go_ret
  exact ⟨by rw [HC.out];rfl,by go_grown⟩
 have h2:¬ (999:Int)<(t.size:Int):=by omega
 have kC:=contentOf_is (k,t) _ (by simp only;omega) hV hE
 unfold R2.val at kC ⊢
 simp only at kC
 go_enter Tryz.func18,Tryz.ntmps18
 go_wp2_with fail
 refine kC.mono ?_
 rintro e w1 ⟨hg,b1⟩
 obtain ⟨v,rfl,hg⟩:=hg
 have kT:=textOfContent_is (k,t) v w1 (by simp only;omega) ⟨v,rfl,hg⟩ (hV.below b1)
 replace hB:=hB.below b1
 replace b0:=belD b0 b1
 clear kC hV hE c0 c1 b1 hg
 go_wp2_with fail
 refine kT.mono ?_
 rintro e w2 ⟨⟨x,c,rfl,hq⟩,b2⟩
 replace hB:=hB.below b2
 replace b0:=belD b0 b2
 have c1:=hB.cell 1
 simp only [List.getElem?_cons_zero,List.getElem?_cons_succ] at c1
 have HY:Hid (c=0→x=t→recB (k,t)=true):=fun h1 h2=>recB_yes (hq.1 ⟨h1,h2⟩)
 have HN:Hid (¬ (c=0∧x=t)→recB (k,t)=false):=fun h1=>recB_no (fun g=>h1 (hq.2 g))
 clear kT hB b2 hq
 by_cases hc0:c=0
 ·subst hc0
  by_cases hx:x=t
  ·subst hx
   have HC:=HY.out rfl rfl
   have hxx:(x.toList == x.toList)=true:=by simp
   clear HY HN
   go_wp2
   go_ret
   exact ⟨by rw [HC];rfl,b0⟩
  ·have HC:Hid (recB (k,t)=false):=HN.out (fun h=>hx h.2)
   have hxx:(x.toList == t.toList)=false:=by
    rw [beq_eq_false_iff_ne]
    intro h
    exact hx (inj13 h)
   clear HY HN
   go_wp2
   go_ret
   exact ⟨by rw [HC.out];rfl,b0⟩
 ·have HC:Hid (recB (k,t)=false):=HN.out (fun h=>hc0 h.1)
  have hcz:(c == 0)=false:=by simp [hc0]
  clear HY HN
  go_wp2
  go_ret
  exact ⟨by rw [HC.out];rfl,b0⟩


theorem implRecordText_is (r:R2) (w:World) (hz:r.2.size≤1048576) (hV:VmShape w) (hE:ErrType w) :
  Calls Tryz.prog 13 #[r.val] w fun e w'=>e=ResT (recC r)∧Below w.heap.size w w':=by
 obtain ⟨k,t⟩:=r
 have hB:=Blk.new w 24 [.int .i64 k,.string t]
 have b0:=bel_new w (.cells #[.int .i64 k,.string t] 24)
 have c0:=hB.cell 0
 have c1:=hB.cell 1
 simp only [List.getElem?_cons_zero,List.getElem?_cons_succ] at c0 c1
 have kR0:=fun W (hb:Below w.heap.size w W)=>implRecordOK_is (k,t) W hz (hV.below hb) (hE.below hb)
 have kR:=kR0 _ b0
 clear kR0 hV hE
 unfold R2.val at kR ⊢
 simp only at kR ⊢
 go_enter Tryz.func13,Tryz.ntmps13
 go_wp2_with fail
 clear c0 c1
 refine kR.mono ?_
 rintro e w1 ⟨rfl,b1⟩
 replace hB:=hB.below b1
 replace b0:=belD b0 b1
 clear b1 kR
 have c0:=hB.cell 0
 have c1:=hB.cell 1
 simp only [List.getElem?_cons_zero,List.getElem?_cons_succ] at c0 c1
 by_cases hr:RecOk (k,t)
 ·have hk:=recB_yes hr
  have HA:Hid (recC (k,t)=(frameOf (recT (k,t)),0)):=recC_yes hr
  obtain ⟨h1,h1'⟩:=hr.kind
  have h2:=hr.1
  have hsz:=recT_small hr
  simp only at h1 h1' h2
  obtain ⟨m,rfl⟩:∃ m:Nat,k=(m:Int):=⟨k.toNat,by omega⟩
  have hm:m<10:=by omega
  have hT:digT m++t=recT ((m:Int),t):=rfl
  have kF:=fun W=>implFrameText_ok (digT m++t) W (by rw [hT];omega)
  rw [hT] at kF
  simp only [hk]
  have hadd:=fun W=>run_string_add_sum (P:=Tryz.prog) W (digT m) t (by unfold digT;rw [strOfNums_size];simp only [List.length_cons,List.length_nil];omega)
  rw [hT] at hadd
  generalize recT ((m:Int),t)=T at *
  clear hT hr
  go_wp2_with fail
  go_region_held3 (fun w'=>w'.cell? ⟨w.heap.size,0,none⟩=some (.int .i64 (m:Int))∧w'.cell? ⟨w.heap.size,1,none⟩=some (.string t)) (first | (exact ⟨c0,c1⟩) | (refine ⟨?_,?_⟩<;>(apply cells_kept (by assumption);assumption)) | go_keep)
   (first | (go_at_call 40;refine (itoa_digit m hm _).mono ?_;rintro e w3 ⟨rfl,rfl⟩) | (go_at_call 39;refine (kF _).mono ?_;rintro e w2 ⟨rfl,b2⟩))
  generalize frameOf T=F at *
  go_wp2
  go_ret2
  exact ⟨by rw [HA.out];rfl,by first | exact belD b0 b2 | exact belD (drew8 b0 _) b2⟩
 ·have hk:=recB_no hr
  have HA:Hid (recC (k,t)=(noT,1)):=recC_no hr
  simp only [hk]
  go_wp2
  go_ret2
  exact ⟨by rw [HA.out];rfl,b0⟩

theorem implAppendRecord_is (d:D2) (r:R2) (w:World) (hd:d.1.size+d.2.size≤1048576) (hz:r.2.size≤1048576) (hV:VmShape w) (hE:ErrType w) :
  Calls Tryz.prog 11 #[d.val,r.val] w fun e w'=>e=ResD (apR d r)∧Below w.heap.size w w':=by
 obtain ⟨s,q⟩:=d
 obtain ⟨k,t⟩:=r
 have hF:=FrA.new w (s,q) (k,t)
 have kR0:=fun W (hb:Below w.heap.size w W)=>implRecordText_is (k,t) W hz (hV.below hb) (hE.below hb)
 have kA:=fun x W=>implAppendDisk_is s q x W hd
 clear hV hE
 unfold R2.val D2.val at *
 simp only at kR0 hd hz ⊢
 go_enter Tryz.func11,Tryz.ntmps11
 obtain ⟨c0,c1,c2,c3,c4,c5,c6,c7⟩:=hF.cells
 go_wp2_with fail
 refine (kR0 _ hF.2.2.2).mono ?_
 rintro e w1 ⟨rfl,b1⟩
 replace hF:=hF.below b1
 clear b1 kR0 c0 c1 c2 c3 c4 c5 c6 c7
 obtain ⟨c0,c1,c2,c3,c4,c5,c6,c7⟩:=hF.cells
 by_cases hr:RecOk (k,t)
 ·have hfs:=frame9_small hr
  have HA:Hid (apR (s,q) (k,t)=appD (s,q) (frameOf (recT (k,t)))):=by
   by_cases h:s.size+q.size≤60000
   ·exact apR_yes h hr
   ·rw [Hid,apR_no (fun g=>h g.1)]
    unfold appD
    rw [if_neg (by omega),if_pos h]
  rw [recC_yes hr]
  have kA:=kA (frameOf (recT (k,t)))
  generalize frameOf (recT (k,t))=F at *
  have kA:=fun W=>kA W (by omega)
  generalize appD (s,q) F=R at *
  obtain ⟨⟨u,x⟩,c⟩:=R
  unfold ResD D2.val at *
  unfold ResT
  simp only at kA
  clear hr hfs
  go_wp2_with fail
  refine (kA _).mono ?_
  rintro e w2 ⟨rfl,b2⟩
  replace hF:=hF.below b2
  clear b2 kA c0 c1 c2 c3 c4 c5 c6 c7
  obtain ⟨c0,c1,c2,c3,c4,c5,c6,c7⟩:=hF.cells
  obtain ⟨W,hW,e0,e1,bW⟩:=FrA.fin (show Hid (FrA w _ (s,q) (k,t)) from hF) u x
  go_wp2
  rw [← hW]
  clear hW
  refine bodyPost_ret (by simp [results,Tryz.results11,go_sem,e0,e1];try rfl) rfl ?_
  exact ⟨by rw [HA.out];rfl,bW⟩
 ·have HA:Hid (apR (s,q) (k,t)=(noD,1)):=apR_no (fun g=>hr g.2)
  rw [recC_no hr]
  obtain ⟨W,hW,e0,e1,bW⟩:=FrA.fin (show Hid (FrA w _ (s,q) (k,t)) from hF) noT noT
  unfold ResT
  simp only
  clear kA hr
  go_wp2
  rw [← hW]
  clear hW
  refine bodyPost_ret (by simp [results,Tryz.results11,go_sem,e0,e1];try rfl) rfl ?_
  exact ⟨by rw [HA.out];rfl,bW⟩


theorem recOk_pos {k:Int} {t:ByteArray} (h:RecOk (k,t)):0<t.size:=by
 rcases Nat.eq_zero_or_pos t.size with h0 | h0
 ·rcases h.2 with ⟨_,rows,h⟩ | ⟨_,e,h⟩ | ⟨_,zs,h,_⟩
  ·rcases h with ⟨_,zs,hL,_⟩ | ⟨h,_⟩
   ·exact absurd hL (noList_nil h0 zs)
   ·cases h
  ·have:=h.2.1;simp only at this;omega
  ·exact absurd h (noList_nil h0 zs)
 ·exact h0
def Told13 (x:ByteArray) (r:R2):Prop:=r.2.size≤x.size∧(RecOk r→0<x.size∧r=((bt x 0:Int) - 48,x.extract 1 x.size))∧(0<x.size→RecOk ((bt x 0:Int) - 48,x.extract 1 x.size)→r=((bt x 0:Int) - 48,x.extract 1 x.size))
theorem Told13.none {x:ByteArray} (h:0<x.size→¬ RecOk ((bt x 0:Int) - 48,x.extract 1 x.size)):Told13 x (0,⟨#[]⟩):=by
 refine ⟨Nat.zero_le _,fun g=>?_,fun h0 g=>absurd g (h h0)⟩
 have:=g.kind
 simp only at this
 omega
theorem Told13.high {x:ByteArray} {k:Int} {t:ByteArray} (h:128≤bt x 0) (hk:4≤k) (ht:t.size≤x.size):Told13 x (k,t):=by
 refine ⟨ht,fun g=>?_,fun h0 g=>?_⟩
 ·have:=g.kind
  simp only at this
  omega
 ·have:=g.kind
  simp only at this
  omega
theorem Told13.one {x:ByteArray} (h:0<x.size):Told13 x ((bt x 0:Int) - 48,x.extract 1 x.size):=
 ⟨by rw [ByteArray.size_extract];omega,fun _=>⟨h,rfl⟩,fun _ _=>rfl⟩
theorem wrap32 {z:Int} (h:-1000≤z) (g:z≤2147483647):IntKind.i32.wrap z=z:=by
 exact IntWalk.i32_in _ ⟨by omega,by omega⟩
theorem recFin13 {w w':World} {k0:Int} {t0:ByteArray} (hB:Blk w' w.heap.size 24 [.int .i64 k0,.string t0]) (h:Below w.heap.size w w') (k:Int) (t:ByteArray):∃ W,W=(w'.setCell ⟨w.heap.size,0,none⟩ (.int .i64 k)).setCell ⟨w.heap.size,1,none⟩ (.string t)∧W.cell? ⟨w.heap.size,0,none⟩=some (.int .i64 k)∧W.cell? ⟨w.heap.size,1,none⟩=some (.string t)∧Below w.heap.size w W:=
 ⟨_,rfl,((hB.set 0 (.int .i64 k)).set 1 (.string t)).cell 0,((hB.set 0 (.int .i64 k)).set 1 (.string t)).cell 1,(h.setCell (Nat.le_refl _) _).setCell (Nat.le_refl _) _⟩

theorem recordOf_is (x:ByteArray) (w:World) (hs:x.size≤65536) :
  Calls Tryz.prog 95 #[.string x] w fun e w'=>(∃ r,Told13 x r∧e=.returned r.val)∧Below w.heap.size w w':=by
 have pB:=Blk.new w 24 [.int .i64 0,.string ⟨#[]⟩]
 have b0:=bel_new w (.cells #[.int .i64 0,.string ⟨#[]⟩] 24)
 have hsz:(w.alloc (.cells #[.int .i64 0,.string ⟨#[]⟩] 24)).heap.size=w.heap.size+1:=by simp
 have HF:Hid (∀ (wr:World) (k:Int) (t:ByteArray) (pos:Nat),wr=(w.alloc (.cells #[.int .i64 0,.string ⟨#[]⟩] 24)).iter x pos→∃ W,W=(wr.setCell ⟨w.heap.size,0,none⟩ (.int .i64 k)).setCell ⟨w.heap.size,1,none⟩ (.string t)∧W.cell? ⟨w.heap.size,0,none⟩=some (.int .i64 k)∧W.cell? ⟨w.heap.size,1,none⟩=some (.string t)∧Below w.heap.size w W):=by
  intro wr k t pos e
  subst e
  exact recFin13 (pB.below (iter_below _ x pos)) (belD b0 (iter_below _ x pos)) k t
 have HC:Hid (∀ pos,Blk ((w.alloc (.cells #[.int .i64 0,.string ⟨#[]⟩] 24)).iter x pos) w.heap.size 24 [.int .i64 0,.string ⟨#[]⟩]):=fun pos=>pB.below (iter_below _ x pos)
 obtain ⟨m,hm⟩:∃ m:Nat,m=x.size:=⟨_,rfl⟩
 have HXS:Hid (x.size=m):=hm.symm
 have hmb:m≤65536:=by omega
 clear hm pB
 unfold R2.val
 go_enter Tryz.func95,Tryz.ntmps95
 go_wp2
 generalize hW:w.alloc (.cells #[.int .i64 0,.string ⟨#[]⟩] 24)=W0 at *
 go_loopw [3] (fun kv wr=>∃ (pos:Nat) (k:Int),pos≤m∧wr=W0.iter x pos∧kv=.int .i64 k∧Hid ((pos=0∧k=0)∨(0<pos∧((pos=1∧k=(bt x 0:Int) - 48)∨(128≤bt x 0∧4≤k))))) (fun _ wr=>m - wr.iterPos W0.heap.size)
 case atStart=>exact ⟨0,0,by omega,rfl,rfl,.inl ⟨rfl,rfl⟩⟩
 case round =>
  obtain ⟨pos,k,hpl,rfl,rfl,HK⟩:=hrel
  by_cases hp:pos<m
  ·have hp':pos<x.size:=by rw [HXS.out];exact hp
   have hg:=bt_get x pos hp'
   rcases HK.out with ⟨rfl,rfl⟩ | ⟨h0,hK⟩
   ·by_cases ha:(x[0]'hp').toNat<128
    ·have hnx:∀ ty,(Instr.next (.pointer (some ⟨W0.heap.size,0,none⟩)) true ty).run Tryz.prog (W0.iter x 0)=_:=fun ty=>run_next_ascii W0 x 0 ty hp' ha
     have HD:Hid (((x[0]'hp').toNat:Int) - 48=(bt x 0:Int) - 48):=by rw [Hid,hg]
     have hw1:IntKind.i32.wrap (((x[0]'hp').toNat:Int) - 48)=((x[0]'hp').toNat:Int) - 48:=wrap32 (by omega) (by omega)
     have hw2:IntKind.i64.wrap (((x[0]'hp').toNat:Int) - 48)=((x[0]'hp').toNat:Int) - 48:=IntWalk.i64_in _ ⟨by omega,by omega⟩
     rw [hsz] at hnx
     clear hg HK
     generalize ((x[0]'hp').toNat:Int)=b at *
     go_wp2
     go_roundw
     case rel=>exact ⟨1,b - 48,by omega,rfl,rfl,.inr ⟨by omega,.inl ⟨rfl,HD.out⟩⟩⟩
     case measure=>simp;omega
    ·have hnx:∀ ty,(Instr.next (.pointer (some ⟨W0.heap.size,0,none⟩)) true ty).run Tryz.prog (W0.iter x 0)=_:=fun ty=>run_next_any W0 x 0 ty hp'
     obtain ⟨hd1,hd2⟩:=decode_high x 0 hp' (by omega)
     have hd3:=decode_le x 0
     have hsp:=decode_span x 0 hp' (by omega) ((Utf8.decode x 0).2 - 1) (by omega)
     have hb128:Hid (128≤bt x 0):=by rw [Hid,← hg];omega
     rw [hsz] at hnx
     clear hg HK
     generalize (Utf8.decode x 0).2=n at *
     have hw1:IntKind.i32.wrap (((Utf8.decode x 0).1:Int) - 48)=((Utf8.decode x 0).1:Int) - 48:=wrap32 (by omega) (by omega)
     have hw2:IntKind.i64.wrap (((Utf8.decode x 0).1:Int) - 48)=((Utf8.decode x 0).1:Int) - 48:=IntWalk.i64_in _ ⟨by omega,by omega⟩
     have hq:4≤((Utf8.decode x 0).1:Int) - 48:=by omega
     have hnm:n≤m:=by rw [HXS.out] at hsp;omega
     simp only [Nat.zero_add] at hnx
     clear hsp
     generalize ((Utf8.decode x 0).1:Int)=b at *
     go_wp2
     go_roundw
     case rel=>exact ⟨n,b - 48,hnm,rfl,rfl,.inr ⟨by omega,.inr ⟨hb128.out,hq⟩⟩⟩
     case measure=>simp;omega
   ·have hcut:(x.extract pos x.size).size≤x.size:=by rw [ByteArray.size_extract];omega
    have HT:Hid (Told13 x (k,x.extract pos x.size)):=by
     rcases hK with ⟨rfl,rfl⟩ | ⟨hb,hk⟩
     ·exact Told13.one (by omega)
     ·exact Told13.high hb hk hcut
    have hz0:(0:Int)<(pos:Int):=by omega
    have hz1:(pos:Int)≤(x.size:Int):=by omega
    have hz2:(0:Int)≤(pos:Int):=by omega
    have hnx:∀ ty,(Instr.next (.pointer (some ⟨W0.heap.size,0,none⟩)) true ty).run Tryz.prog (W0.iter x pos)=_:=fun ty=>run_next_any W0 x pos ty hp'
    rw [hsz] at hnx
    generalize ((Utf8.decode x pos).1:Int)=b at *
    generalize pos+(Utf8.decode x pos).2=p2 at *
    have hB:=HC.out p2
    have r0:=hB.cell 0
    have r1:=hB.cell 1
    have fr0:=hB.frozen 0
    have fr1:=hB.frozen 1
    simp only [List.getElem?_cons_zero,List.getElem?_cons_succ] at r0 r1
    obtain ⟨W,hW9,e0,e1,bW⟩:=HF.out _ k (x.extract pos x.size) p2 rfl
    clear HF HC HK hB hg hK hcut
    go_wp2
    rw [← hW9]
    clear hW9
    refine bodyPost_ret (by simp [results,Tryz.results95,go_sem,e0,e1];try rfl) rfl ?_
    exact ⟨⟨_,HT.out,rfl⟩,bW⟩
  ·have hp':¬ pos<x.size:=by rw [HXS.out];exact hp
   have hnx:∀ ty,(Instr.next (.pointer (some ⟨W0.heap.size,0,none⟩)) true ty).run Tryz.prog (W0.iter x pos)=_:=fun ty=>run_next_end W0 x pos ty hp'
   rw [hsz] at hnx
   have HT:Hid (Told13 x (0,⟨#[]⟩)):=by
    refine Told13.none (fun h0 hr=>?_)
    have hk:=hr.kind
    have hs1:=recOk_pos hr
    rw [ByteArray.size_extract] at hs1
    simp only at hk
    rcases HK.out with ⟨rfl,rfl⟩ | ⟨h1,⟨rfl,_⟩ | ⟨hb,_⟩⟩<;>omega
   have hB:=HC.out pos
   have r0:=hB.cell 0
   have r1:=hB.cell 1
   have fr0:=hB.frozen 0
   have fr1:=hB.frozen 1
   simp only [List.getElem?_cons_zero,List.getElem?_cons_succ] at r0 r1
   obtain ⟨W,hW9,e0,e1,bW⟩:=HF.out _ 0 ⟨#[]⟩ pos rfl
   clear HF HC HK hB
   go_wp2
   rw [← hW9]
   clear hW9
   refine bodyPost_ret (by simp [results,Tryz.results95,go_sem,e0,e1];try rfl) rfl ?_
   exact ⟨⟨_,HT.out,rfl⟩,bW⟩


theorem implUnframeText_any (s:ByteArray) (w:World) (hs:s.size≤65536) (hE:ErrType w) :
  Calls Tryz.prog 94 #[.string s] w fun e w'=>Unframed s e∧Below w.heap.size w w':=by
 go_enter Tryz.func94,Tryz.ntmps94
 go_wp2_with fail
 refine (readFrame_any s _ hs).mono ?_
 rintro e w1 ⟨hk,hb1⟩
 have hE1:=hE.below hb1
 rcases hk with ⟨n,k,hn,hs1,rfl⟩ | ⟨n,k,hn,hs1,y,rfl⟩ | ⟨hn,y,rfl⟩
 ·have HN:Hid (Framed s n k∧sumAt s k=sumTo (frameText s n k) (frameText s n k).size):=⟨hn,hs1⟩
  clear hn hs1
  go_wp2_with fail
  refine (faultCode_nil _).mono ?_
  rintro e w2 ⟨rfl,hb2⟩
  go_wp2
  go_ret3
  exact ⟨.inl ⟨n,k,HN.out.1,HN.out.2,rfl⟩,sub_trans hb1 hb2⟩
 ·have HN:Hid (Framed s n k∧sumAt s k≠sumTo (frameText s n k) (frameText s n k).size):=⟨hn,hs1⟩
  clear hn hs1
  go_wp2_with fail
  refine (faultCode_hit 9 y _ hE1).mono ?_
  rintro e w2 ⟨rfl,hb2⟩
  go_wp2
  go_ret3
  exact ⟨.inr (.inl ⟨n,k,HN.out.1,HN.out.2,rfl⟩),sub_trans hb1 hb2⟩
 ·have HN:Hid (NoFrame s):=hn
  clear hn
  go_wp2_with fail
  refine (faultCode_hit 3 y _ hE1).mono ?_
  rintro e w2 ⟨rfl,hb2⟩
  go_wp2
  go_ret3
  exact ⟨.inr (.inr ⟨HN.out,rfl⟩),sub_trans hb1 hb2⟩


def At13 (t:ByteArray) (r:R2) (n:Nat) (b:Bool):Prop:=r.2.size≤t.size∧n≤t.size∧(b=true→Nxt t r n)∧(b=false→∀ r n,¬ Nxt t r n)
def AtGot13 (t:ByteArray) (e:Ending):Prop:=∃ (r:R2) (n:Nat) (b:Bool),e=.returned (.tuple #[.agg #[.int .i64 r.1,.string r.2],.int .i64 (n:Int),.bool b])∧At13 t r n b

theorem recordAt_is (t:ByteArray) (w:World) (ht:t.size≤60000) (hV:VmShape w) (hE:ErrType w) :
  Calls Tryz.prog 70 #[.string t] w fun e w'=>AtGot13 t e∧Below w.heap.size w w':=by
 have pR:=Blk.new w 24 [.int .i64 0,.string ⟨#[]⟩]
 have b0:=bel_new w (.cells #[.int .i64 0,.string ⟨#[]⟩] 24)
 have kR0:=fun (k:Int) (u:ByteArray) W hz (hb:Below w.heap.size w W)=>implRecordOK_is (k,u) W hz (hV.below hb) (hE.below hb)
 replace hE:=hE.below b0
 unfold R2.val at kR0
 clear hV
 go_enter Tryz.func70,Tryz.ntmps70
 go_wp2_with fail
 simp only [List.toArray] at pR b0 hE
 generalize w.alloc (.cells #[.int .i64 0,.string ⟨#[]⟩] 24)=W0 at *
 refine (implUnframeText_any t _ (by omega) hE).mono ?_
 rintro e w1 ⟨hU,b1⟩
 obtain ⟨x,b,c,rfl,hbs,hxz,hNo,hYes⟩:=openGot_of hU
 replace pR:=pR.below b1
 replace b0:=belD b0 b1
 clear b1 hU hE
 by_cases hc:c=0
 ·subst hc
  go_wp2_with fail
  refine (recordOf_is x _ (by omega)).mono ?_
  rintro e w2 ⟨⟨⟨k,u⟩,hT,rfl⟩,b1⟩
  unfold R2.val
  simp only
  replace pR:=pR.below b1
  replace b0:=belD b0 b1
  clear b1
  have hux:=hT.1
  simp only at hux
  have kR:=fun W (hb:Below w.heap.size w W)=>kR0 k u W (show u.size≤1048576 by omega) hb
  have HG:Hid (AtGot13 t (.returned (.tuple #[.agg #[.int .i64 k,.string u],.int .i64 (b:Int),.bool (recB (k,u))]))):=by
   refine ⟨(k,u),b,recB (k,u),rfl,show u.size≤t.size by omega,hbs,fun h=>?_,fun h=>?_⟩
   ·have hr:=(recB_iff _).1 h
    obtain ⟨h0,he⟩:=hT.2.1 hr
    rw [he] at hr ⊢
    exact (hYes (by first | rfl | trivial) h0).2 hr
   ·intro r n hx
    rcases Nat.eq_zero_or_pos x.size with h0 | h0
    ·exact hNo (.inr h0) r n hx
    ·have e9:=(hYes (by first | rfl | trivial) h0).1 r n hx
     have hr:=hx.ok
     rw [e9] at hr
     have:=hT.2.2 h0 hr
     rw [← this] at hr
     rw [recB_yes hr] at h
     cases h
  try simp only at kR
  generalize recB (k,u)=ok at *
  clear kR0 hNo hYes hT hxz
  have hlt:=pR.lt
  have p8:=Blk.new w2 24 [.int .i64 k,.string u]
  have b8:=bel_new w2 (.cells #[.int .i64 k,.string u] 24)
  replace pR:=pR.below b8
  replace b0:=belD b0 b8
  clear b8
  go_wp2_with fail
  simp only [List.toArray] at p8 pR b0
  generalize w2.alloc (.cells #[.int .i64 k,.string u] 24)=W2 at *
  generalize w2.heap.size=g8 at *
  refine wp_region_held_drew (S:=(fun w'=>w'.cell? ⟨g8,0,none⟩=some (.int .i64 k)∧w'.cell? ⟨g8,1,none⟩=some (.string u))) (by kernel_rfl) ⟨by simpa using p8.cell 0,by simpa using p8.cell 1⟩ (fun hS0=>?_)
  refine tky 0 20 (.agg #[.int .i64 k,.string u]) ?_
  try simp only [Act.put,tka,tkb,tkc]
  refine tky 1 21 (.int .i64 (b:Int)) ?_
  try simp only [Act.put,tka,tkb,tkc]
  refine tky 2 22 (.agg #[.int .i64 k,.string u]) ?_
  try simp only [Act.put,tka,tkb,tkc]
  have hdr:Below W2.heap.size W2 W2.drew:=by go_grown
  replace pR:=pR.below hdr
  replace b0:=belD b0 hdr
  clear hdr p8
  generalize W2.drew=V at *
  refine tkr 3 23 (fun K hK=>?_)
  go_simp
  refine (kR V b0).mono ?_
  rintro e V1 ⟨rfl,b1⟩
  replace pR:=pR.below b1
  replace b0:=belD b0 b1
  replace hS0:=And.intro (cells_kept b1 _ _ hS0.1) (cells_kept b1 _ _ hS0.2)
  go_wp2_with fail
  refine hK.out _ _ hS0 (fun hS1=>?_)
  clear hK
  try simp only [Act.put,tka,tkb,tkc]
  refine tkz 4 (fun K hK=>?_)
  refine step_store_blkD rfl 24 _ _ rfl w.heap.size [.int .i64 k,.string u] rfl rfl pR (by kernel_rfl) rfl rfl ?_
  intro V9 pX9 g9
  have bz:=b0.grown g9 b0.size (fun q e=>by cases e;exact Nat.le_refl _)
  refine hK.out _ _ ⟨cell_grownB g9 hS1.1 (by simp;omega),cell_grownB g9 hS1.2 (by simp;omega)⟩ (fun hS4=>?_)
  clear hK
  try simp only [Act.put,tka,tkb,tkc]
  refine tky 5 3 (.int .i64 (b:Int)) ?_
  try simp only [Act.put,tka,tkb,tkc]
  refine tky 6 4 (.bool ok) ?_
  try simp only [Act.put,tka,tkb,tkc]
  refine wpAnyH_done (by kernel_rfl) ?_ _
  have e0:=pX9.out.cell 0
  have e1:=pX9.out.cell 1
  simp only [List.getElem?_cons_zero,List.getElem?_cons_succ] at e0 e1
  clear hS0 hS1 hS4 pX9 pR g9 b1 b0 kR
  go_wp2
  refine bodyPost_ret (by simp [results,Tryz.results70,go_sem,e0,e1];try rfl) rfl ?_
  exact ⟨HG.out,bz⟩
 ·have hcn:(c != 0)=true:=by simp [hc]
  have HG:Hid (AtGot13 t (.returned (.tuple #[.agg #[.int .i64 0,.string ⟨#[]⟩],.int .i64 ((0:Nat):Int),.bool false]))):=
   ⟨(0,⟨#[]⟩),0,false,rfl,Nat.zero_le _,Nat.zero_le _,fun h=>by (cases h),fun _=>hNo (.inl hc)⟩
  clear kR0 hNo hYes
  have r0:=pR.cell 0
  have r1:=pR.cell 1
  have fr0:=pR.frozen 0
  have fr1:=pR.frozen 1
  simp only [List.getElem?_cons_zero,List.getElem?_cons_succ] at r0 r1
  obtain ⟨W,hW,e0,e1,bW⟩:=recFin13 pR b0 0 ⟨#[]⟩
  go_wp2
  rw [← hW]
  clear hW
  refine bodyPost_ret (by simp [results,Tryz.results70,go_sem,e0,e1];try rfl) rfl ?_
  exact ⟨HG.out,bW⟩


def varsFit (P:Program) (ns:List String):Bool:=ns.all fun n =>
 match P.globalNamed n with
 | some g=>match (P.globals[g]?).map (·.type) with
  | some t=>P.readableRec t && decide (t<P.types.size)
  | none=>false
 | none=>false

theorem var?_lt {P:Program} {W:World} {n:String} {g:Nat} {cs:Array Value} (hg:P.globalNamed n=some g) (hv:W.var? P n=some cs):g<W.heap.size:=by
 rcases Nat.lt_or_ge g W.heap.size with h | h
 ·exact h
 ·unfold World.var? at hv
  simp [hg,Array.getElem?_eq_none h] at hv

theorem vars_below {H:Type} {enc:TypeId × Value→H} {P:Program} {W W':World} (hl:laidOutB P=true) (bel:Below W.heap.size W W') :
  ∀ {ns:List String} {gs:List (DataW H)} {ps:List MemPlace},varsFit P ns=true→DataW.TrodVars enc P W (fun _=>true) ns gs ps→DataW.TrodVars enc P W' (fun b=>decide (b<W.heap.size)) ns gs ps
 | [],[],ps,_,h=>h
 | [],_::_,_,_,h=>by cases h
 | _::_,[],_,_,h=>by cases h
 | n::ns,d::ds,ps,hf,h=>by
  obtain ⟨g,t,cs,fuel,p,q,hg,ht,hv,hd,hr,e⟩:=h
  simp only [varsFit,List.all_cons,Bool.and_eq_true] at hf
  obtain ⟨hf1,hf2⟩:=hf
  rw [hg] at hf1
  simp only [ht,Bool.and_eq_true,decide_eq_true_eq] at hf1
  obtain ⟨fuel',hd'⟩:=Below.trod hl hf1.1 hf1.2 (v:=.agg cs) (⟨fuel,by simpa [Value.cells] using hd⟩:DataW.Trod enc P W 0 (fun _=>true) true t (.agg cs) d p) bel (DataW.trod_lt fuel _ _ _ hd)
  exact ⟨g,t,cs,fuel',p,q,hg,ht,var?_below bel hg (var?_lt hg hv) hv,by simpa [Value.cells] using hd',vars_below hl bel hf2 hr,e⟩

theorem vars_len {H:Type} {enc:TypeId × Value→H} {P:Program} {W:World} {spare:Nat→Bool}:∀ {ns:List String} {gs:List (DataW H)} {ps:List MemPlace},DataW.TrodVars enc P W spare ns gs ps→gs.length=ns.length
 | [],[],_,_=>rfl
 | [],_::_,_,h=>by cases h
 | _::_,[],_,h=>by cases h
 | _::_,_::_,_,h=>by
  obtain ⟨_,_,_,_,_,_,_,_,_,_,hr,_⟩:=h
  simp [vars_len hr]
end Go.Proofs.YtdopgkbegjfhjaaGreatDoor
