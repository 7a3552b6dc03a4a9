/-
  Joined: AstW.
-/
import Derived.Test.YtfpopbbmnbehiaaDoorA42
import Derived.Test.YtfpopbbmnbehiaaDoorA49

namespace Go.Proofs.YtfpopbbmnbehiaaDoor
set_option maxRecDepth 100000
set_option maxHeartbeats 16000000
open Go.RowKit
set_option linter.unusedVariables false

theorem OwnT.but {t base:Nat} {w w':World} {a:Option Addr} {n cap:Nat} {ts:List ByteArray} (h:OwnT base w a n cap ts) (hk:KeptBut t w w') (he:9≠t):OwnT base w' a n cap ts:=by
 obtain ⟨h1,h2,h3,h4⟩:=h
 refine ⟨h1,h2,h3,?_⟩
 rcases h4 with h4 | ⟨g,ha,h4⟩
 ·exact .inl h4
 ·exact .inr ⟨g,ha,hk.owns h4 he⟩
theorem OwnT.drewN {base:Nat} {w:World} {a:Option Addr} {n cap:Nat} {ts:List ByteArray} (h:OwnT base w a n cap ts) (d:Nat):OwnT base (w.drewN d) a n cap ts:=h
theorem OwnProg.codes' {w:World} {B:Nat} {a:Option Addr} {len cap:Nat} {rows:List (List I3)} (h:OwnProg w B (.slice a len cap) rows) {w0:World} {a0:Option Addr} {len0 cap0:Nat} (h0:Codes w0 a0 len0 cap0 rows):Codes w a len cap rows:=by
 refine h.codes fun r hr x hx=>?_
 obtain ⟨hl,_,_,hc⟩:=h0
 obtain ⟨t,ht,rfl⟩:=List.getElem_of_mem hr
 rcases hc with hc | ⟨b,off,_,_,hc⟩
 ·omega
 ·obtain ⟨_,_,_,_,hI⟩:=hc t (by omega)
  have e:rows.getD t []=rows[t]:=by simp [List.getD,ht]
  rw [e] at hI
  exact hI.2.2.2.1 x hx
theorem bel_dr {w w':World} {B:Nat} (h:Below B w w') (d:Nat):Below B w (w'.drewN d):=⟨h.os,h.tape,h.output,h.size,h.block⟩

theorem allStates_pair (rows:List (List I3)):∃ (ls:List ByteArray) (c:Int),ls.length≤2000 ∧
  (∀ (a:Option Addr) (len cap:Nat) (w:World),Codes w a len cap rows→Calls Tryd.prog 8 #[.agg #[.slice a len cap]] w fun e w'=>∃ v,e=.returned (.tuple #[v,.int .i64 c])∧w'.ownsRow w.heap.size 9 1 v ls.length (ls.map Value.string)∧Below w.heap.size w w') ∧
  (∀ (a:Option Addr) (len cap:Nat) (w:World),Codes w a len cap rows→VmShape w→Calls Tryd.prog 10 #[.agg #[.slice a len cap]] w fun e w'=>∃ v,e=.returned (.tuple #[v,.int .i64 c])∧w'.ownsRow w.heap.size 9 1 v ls.length (ls.map Value.string)∧Below w.heap.size w w'):=
 ⟨keysO rows,codeF rows,keysO_len rows,fun a len cap w h=>(specAllStates_is a len cap rows w h).mono (fun e w' ⟨⟨v,h1,h2⟩,h3⟩=>⟨v,h1,h2,h3⟩),fun a len cap w h hV=>(implAllStates_is a len cap rows w h hV).mono (fun e w' ⟨⟨v,h1,h2⟩,h3⟩=>⟨v,h1,h2,h3⟩)⟩

theorem fnExactAllStates_walk (a:Option Addr) (len cap:Nat) (rows:List (List I3)) (w:World) (h:Codes w a len cap rows) (hT:VmShape w):Calls Tryd.prog 3 #[.agg #[.slice a len cap]] w fun e w'=>e=.returned (.bool true)∧Below w.heap.size w w':=by
 have hsz:=sizeLeft_or rows 1048576 (by omega)
 have hbd:=size_bounds (rows:=rows) (left:=1048576) (by omega)
 have hct:=sizeLeft_cnt (rows:=rows) (left:=1048576)
 obtain ⟨ls,c,hls,kS,kI⟩:=allStates_pair rows
 have hne:(c != c)=false:=by simp
 go_enter Tryd.func3,Tryd.ntmps3
 go_wp2_with fail
 refine (szProgram_less a len cap rows 1048576 _ (h.below (by go_grown)) (by omega) (by omega)).mono ?_
 rintro e w1 ⟨rfl,hb1⟩
 have cP:w1.cell? ⟨w.heap.size,0,none⟩=some (.slice a len cap):=by rw [hb1.cell (by simp)];simp [go_sem]
 have hPw:w.heap.size<w1.heap.size:=lt_of_cell cP
 have b1:Below w.heap.size w w1:=bel_trans (by go_grown) hb1
 clear hb1
 generalize sizeLeft 1048576 rows=n at hsz hbd hct
 rcases hsz with rfl | ⟨hn0,hn1⟩
 ·clear hbd hct
  go_wp2
  go_ret
  exact ⟨rfl,b1⟩
 ·obtain ⟨hr,hr'⟩:=hbd hn0 (by omega)
  have hcn:=hct hn0
  have hcj:∀ j,j≤rows.length→cntP rows j≤10000000:=fun j _=>by have:=cntP_mono rows j;omega
  have hcl:=hcj rows.length (Nat.le_refl _)
  clear hbd hct hcn
  have hlen:len≤1048576:=by rw [← h.1];exact hr
  have hn:decide (n<0)=false:=by simp;omega
  go_wp2_with fail
  refine (toProgram_copy a len cap rows _ (h.below b1) hlen (fun t _=>hr' t)).mono ?_
  rintro e w2 ⟨rfl,hC2,hb2⟩
  have b2:=bel_trans b1 hb2
  replace cP:=cells_kept hb2 _ _ cP
  clear hb2 b1
  go_wp2_with fail
  refine (kS _ _ _ _ hC2.codes).mono ?_
  rintro e w3 ⟨vs,rfl,ho3,hb3⟩
  have b3:=bel_trans b2 hb3
  replace cP:=cells_kept hb3 _ _ cP
  have b3s:w.heap.size<w3.heap.size:=lt_of_cell cP
  clear hb3 hC2
  obtain ⟨aS,capS,rfl,hO3⟩:=OwnT.of_owns ho3
  have hSlo:=hO3.block
  have hS3:=hO3.strs
  clear ho3 hO3 b2
  go_wp2_with fail
  refine (toProgram_own a len cap rows _ (h.below b3) hlen (fun t _=>hr' t)).mono ?_
  rintro e w4 ⟨rfl,hX4,hb4⟩
  have b4:=bel_trans b3 hb4
  replace cP:=cells_kept hb4 _ _ cP
  have hS4:=hS3.below hb4
  have hb4s:=hb4.size
  clear hb4 b3 hS3
  have hXs:=hX4.codes' h
  have hX3:w3.heap.size≤w3.heap.size+3:=by omega
  generalize w3.heap.size+3=g at hX4 hXs hX3
  generalize w3.heap.size=s3 at hSlo hb4s hX3 b3s
  go_wp2_with fail
  refine (kI _ _ _ _ (hXs.below (by go_grown)) (hT.below (bel_trans b4 (by go_grown)))).mono ?_
  rintro e w5 ⟨vg,rfl,ho5,hb5⟩
  have cX:w5.cell? ⟨w4.heap.size,0,none⟩=some (.slice (some ⟨g,0,none⟩) len len):=by rw [hb5.cell (by simp)];simp [go_sem]
  have hb5':Below w4.heap.size w4 w5:=bel_trans (by go_grown) hb5
  have b5:=bel_trans b4 hb5'
  replace cP:=cells_kept hb5' _ _ cP
  have hX5:=hX4.below hb5'
  have hS5:=hS4.below hb5'
  replace hXs:=hXs.below hb5'
  have hGB:w4.heap.size≤(w4.alloc (.cells #[.slice (some ⟨g,0,none⟩) len len] 31)).heap.size:=by simp
  have ho5':=own_lower ho5 hGB
  have hb5s:=hb5'.size
  clear hb5 hb5' b4 kS hX4 hS4 ho5 hGB
  obtain ⟨aG,capG,rfl,hG5⟩:=OwnT.of_owns ho5'
  clear ho5'
  have hX4s:s3≤w4.heap.size:=by omega
  generalize w4.heap.size=X at cX hG5 hb5s hX4s
  clear hb4s
  obtain ⟨m,hm⟩:∃ m,m=ls.length:=⟨_,rfl⟩
  rw [← hm] at hG5 hS5 hls hSlo
  rw [← hm]
  have HM:Hid (m=ls.length):=hm
  clear hm
  go_wp2_with fail
  refine (eqStringS_same _ _ _ _ _ ls _ hG5.strs hS5).mono ?_
  rintro e w6 ⟨rfl,d,rfl⟩
  have hG6:=hG5.drewN d
  have hS6:Strs (w5.drewN d) aS m capS ls:=hS5
  have cX6:(w5.drewN d).cell? ⟨X,0,none⟩=some (.slice (some ⟨g,0,none⟩) len len):=cX
  have cP6:(w5.drewN d).cell? ⟨w.heap.size,0,none⟩=some (.slice a len cap):=cP
  have hX6:OwnProg (w5.drewN d) g (.slice (some ⟨g,0,none⟩) len len) rows:=hX5
  have hXs6:Codes (w5.drewN d) (some ⟨g,0,none⟩) len len rows:=hXs
  have b6:Below w.heap.size w (w5.drewN d):=bel_dr b5 d
  have hb6s:X≤(w5.drewN d).heap.size:=hb5s
  clear hG5 hS5 cX cP hX5 hXs b5 hb5s
  generalize w5.drewN d=w6 at hG6 hS6 cX6 cP6 hX6 hXs6 b6 hb6s
  go_wp2_with fail
  have hA:Codes w6.drew a len cap rows:=(h.below b6).below (by go_grown)
  have hXc:Codes w6.drew (some ⟨g,0,none⟩) len len rows:=hXs6.below (by go_grown)
  clear hXs6
  go_region_held3 (fun w'=>w'.cell? ⟨X,0,none⟩=some (.slice (some ⟨g,0,none⟩) len len)∧w'.cell? ⟨w.heap.size,0,none⟩=some (.slice a len cap)) (first | (exact ⟨cX6,cP6⟩) | (exact ⟨cX7,cP7⟩) | (exact ⟨cells_kept hb8 _ _ cX7,cells_kept hb8 _ _ cP7⟩))
   (first | (go_at_call 9;refine (toProgram_copy a len cap rows _ hA hlen (fun t _=>hr' t)).mono ?_;rintro e w7 ⟨rfl,hC7,hb7⟩;have hD:=hXc.below hb7;have cX7:=cells_kept hb7 _ _ cX6;have cP7:=cells_kept hb7 _ _ cP6) | (go_at_call 12;refine (eqProgram_same _ _ _ _ _ rows _ hD hC7.codes).mono ?_;rintro e w8 ⟨rfl,hb8⟩))
  have hb68:Below w6.heap.size w6 w8:=bel_trans (by go_grown) (bel_trans hb7 hb8)
  have b8:Below w.heap.size w w8:=bel_trans b6 hb68
  have hG8:=hG6.kept hb68
  have hS8:=hS6.below hb68
  have cX8:=cells_kept hb68 _ _ cX6
  have cP8:=cells_kept hb68 _ _ cP6
  have hX8:=hX6.below hb68
  have hb8s:X≤w8.heap.size:=Nat.le_trans hb6s hb68.size
  clear hb68 hb7 hb8 hD hA hXc hC7 cX7 cP7 hG6 hS6 cX6 cP6 hX6 b6 hb6s
  have hgX:g≤w8.heap.size:=by
   obtain ⟨vs,h1,_⟩:=hX8
   exact Nat.le_of_lt (h1.lt g rfl).2
  have hks:¬ ((1:Int)+(cntP rows rows.length:Int)<0):=by omega
  have hks':decide ((1:Int)+(cntP rows rows.length:Int)<0)=false:=by simp;omega
  have KM:=markProgram_own g (.slice (some ⟨g,0,none⟩) len len) 1 rows w8 (by omega) (by omega) hcl hcj (fun j _=>hr' j) hgX hX8
  generalize cntP rows rows.length=cn at hks hks' KM
  clear hX8 hcj
  go_wp2_with fail
  refine KM.mono ?_
  rintro e w9 ⟨rfl,_,hK9,hb9⟩
  have hG9:=hG8.but hK9 (by decide)
  have hS9:Strs w9 aS m capS ls:=hS8.below_base (fun x hx h0=>by have:=hSlo x hx h0;omega) hb9
  have cP9:w9.cell? ⟨w.heap.size,0,none⟩=some (.slice a len cap):=by rw [hb9.cell (by simp;omega)];exact cP8
  have b9:Below w.heap.size w w9:=b8.trans (hb9.mono (by omega))
  have hb9s:=hb9.size
  clear hb9 hK9 KM hG8 hS8 cX8 cP8 b8
  go_wp2_with fail
  refine (eqStringS_same _ _ _ _ _ ls _ hG9.strs hS9).mono ?_
  rintro e w10 ⟨rfl,d2,rfl⟩
  have hG10:=hG9.drewN d2
  have hS10:Strs (w9.drewN d2) aS m capS ls:=hS9
  have cP10:(w9.drewN d2).cell? ⟨w.heap.size,0,none⟩=some (.slice a len cap):=cP9
  have b10:Below w.heap.size w (w9.drewN d2):=bel_dr b9 d2
  clear hG9 hS9 cP9 b9
  generalize w9.drewN d2=w10 at hG10 hS10 cP10 b10
  go_wp2_with fail
  refine (markStringS_any X aG m capG 1 ls _ (by omega) (by omega) (by omega) hG10).mono ?_
  rintro e w11 ⟨rfl,hG11,hb11⟩
  have hS11:Strs w11 aS m capS ls:=hS10.below_base (fun x hx h0=>by have:=hSlo x hx h0;omega) hb11
  have cP11:w11.cell? ⟨w.heap.size,0,none⟩=some (.slice a len cap):=by rw [hb11.cell (by simp;omega)];exact cP10
  have b11:Below w.heap.size w w11:=b10.trans (hb11.mono (by omega))
  clear hb11 hG10 hS10 cP10 b10
  have hq:¬ ((1:Int)+(m:Int)<0):=by omega
  have hq':(((1:Int)+(m:Int)) != ((1:Int)+(m:Int)))=false:=by simp
  go_wp2_with fail
  refine (heldStringS_yes aG m capG 1 (mkTS 1 ls m) _ (by omega) (by omega) (by omega) hG11.strs (fun i hi=>mkTS_get 1 ls m i hi (by rw [HM.out];exact Nat.le_refl _))).mono ?_
  rintro e w12 ⟨rfl,hb12⟩
  have hG12:=hG11.kept hb12
  have hS12:=hS11.below hb12
  have cP12:=cells_kept hb12 _ _ cP11
  have b12:=bel_trans b11 hb12
  clear hb12 hG11 hS11 cP11 b11
  go_wp2_with fail
  refine (toProgram_copy a len cap rows _ (h.below b12) hlen (fun t _=>hr' t)).mono ?_
  rintro e w13 ⟨rfl,hC13,hb13⟩
  have hG13:=hG12.kept hb13
  have hS13:=hS12.below hb13
  have b13:=bel_trans b12 hb13
  clear hb13 hG12 hS12 cP12 b12
  go_wp2_with fail
  refine (kI _ _ _ _ hC13.codes (hT.below b13)).mono ?_
  rintro e w14 ⟨vh,rfl,ho14,hb14⟩
  have hG14:=hG13.kept hb14
  have hS14:=hS13.below hb14
  have b14:=bel_trans b13 hb14
  obtain ⟨aH,capH,rfl,hH14⟩:=OwnT.of_owns ho14
  clear hb14 hG13 hS13 b13 hC13 kI ho14 hT
  rw [← HM.out] at hH14
  rw [← HM.out]
  go_wp2_with fail
  refine (eqStringS_same _ _ _ _ _ ls _ hH14.strs hS14).mono ?_
  rintro e w15 ⟨rfl,d3,rfl⟩
  have hG15:=hG14.drewN d3
  have b15:Below w.heap.size w (w14.drewN d3):=bel_dr b14 d3
  clear hG14 hS14 b14 hH14
  generalize w14.drewN d3=w15 at hG15 b15
  go_wp2_with fail
  refine (heldStringS_yes aG m capG 1 (mkTS 1 ls m) _ (by omega) (by omega) (by omega) hG15.strs (fun i hi=>mkTS_get 1 ls m i hi (by rw [HM.out];exact Nat.le_refl _))).mono ?_
  rintro e w16 ⟨rfl,hb16⟩
  have b16:=bel_trans b15 hb16
  clear hb16 hG15 b15
  go_wp2
  go_ret
  exact ⟨rfl,b16⟩

theorem fnExactAllStates_laid {W:World} (h:laidMetH Tryd.prog Rows.fnExactAllStatesRow.laid W):VmShape W:=vmShape_of_laid rfl h
theorem fnExactAllStates_door_met (os:Os) (args:Array Value):laidMetH Tryd.prog Rows.fnExactAllStatesRow.laid ((World.doorLaid Tryd.prog 400 os).forCall (fun _ _=>0) ⟨#[],args,[]⟩).memory:=
 laidMetH_of_parts3 (fuel:=8) (laidMet_of_run' 8 (by kernel_rfl) (by kernel_rfl)) (by kernel_rfl) (by kernel_rfl)
end Go.Proofs.YtfpopbbmnbehiaaDoor
