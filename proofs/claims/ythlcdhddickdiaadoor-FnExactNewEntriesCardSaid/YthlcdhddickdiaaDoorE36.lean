/-
  Joined: FndI.
-/
import Derived.Deep.Cut
import Derived.Test.YthlcdhddickdiaaDoorE30

namespace Go.Proofs.YthlcdhddickdiaaDoor
set_option maxRecDepth 100000
set_option maxHeartbeats 16000000
open Go.RowKit
set_option linter.unusedVariables false
set_option linter.unusedSimpArgs false

theorem against_is (k key:ByteArray) (s:Sl2) (w:World) :
  Calls Tryd.prog 74 #[entV k s,.string key] w fun e w'=>e=.returned (.int .i64 (cmpS k key))∧Below w.heap.size w w':=by
 have kX:=fun W=>entryKey_is k s W
 have kC:=fun W=>stringsCompare_is k key W
 have mK:=fun v W=>methKey v W
 have eK:∀ args w,(callFunc 137 args).run Tryd.prog w=.ok (.enter 137 args) w:=Go.Proofs.enters_of Tryd.func137 (by kernel_rfl) rfl
 obtain ⟨⟨a1,n1,c1⟩,⟨a2,n2,c2⟩⟩:=s
 unfold entV at *
 simp only at *
 have bw:Below w.heap.size w (w.alloc (.cells #[.string k,.slice a1 n1 c1,.slice a2 n2 c2] 39)):=by go_grown
 go_enter Tryd.func74,Tryd.ntmps74
 go_wp2_with fail
 refine (kX _).mono ?_
 rintro e w1 ⟨rfl,hb⟩
 replace bw:=bel8 bw hb
 go_wp2_with fail
 refine (kC _).mono ?_
 rintro e w2 ⟨rfl,rfl⟩
 go_wp2
 go_ret
 exact ⟨rfl,bw⟩

theorem search_is (a:Option Addr) (n cap:Nat) (es:List E3) (key:ByteArray) (w:World) (h:Ents w a n cap es) (hok:memOk es=true) :
  Calls Tryd.prog 76 #[.slice a n cap,.string key,.func (.func 74) #[] #[]] w fun e w'=>e=.returned (.tuple #[.int .i64 (plcE es key),.bool (isE es key)])∧Below w.heap.size w w':=by
 have hn2:=memOk_len hok
 have hl:=h.1
 rw [hl] at hn2
 obtain ⟨pl,hpl⟩:∃ pl,pl=plcE es key:=⟨_,rfl⟩
 obtain ⟨fb,hfb⟩:∃ fb,fb=isE es key:=⟨_,rfl⟩
 rw [← hpl,← hfb]
 have HPL:Hid (pl=plcE es key):=hpl
 have HFB:Hid (fb=isE es key):=hfb
 clear hpl hfb
 go_enter Tryd.func76,Tryd.ntmps76
 go_wp2_with fail
 go_loopw [9,10] (fun sl sh wr=>∃ lo hi:Nat,lo≤hi∧hi≤n∧sl=.int .i64 lo∧sh=.int .i64 hi∧Hid ((∀ i,i<lo→ltS (es.getD i e3d).1 key=true)∧∀ i,hi≤i→i<n→ltS (es.getD i e3d).1 key=false)∧Below w.heap.size w wr) (fun sl sh _=>(intOf sh).toNat - (intOf sl).toNat)
 case atStart=>exact ⟨0,n,by omega,by omega,rfl,rfl,⟨fun i hi=>by omega,fun i h1 h2=>by omega⟩,Below.refl _ _⟩
 case round =>
  obtain ⟨lo,hi,h1,h2,rfl,rfl,HK,bw⟩:=hrel
  by_cases hlt:lo<hi
  ·obtain ⟨_,_,_,hcase⟩:=h.below bw
   rcases hcase with e0 | ⟨b,off,rfl,hblt,hcell⟩
   ·omega
   obtain ⟨s,c0,c1,c2,_⟩:=hcell ((lo+hi) / 2) (by omega)
   have hcl:=cmpS_lt (es.getD ((lo+hi) / 2) e3d).1 key
   have kC:=fun W=>against_is (es.getD ((lo+hi) / 2) e3d).1 key s W
   have hlo:(lo:Int)<(hi:Int):=by omega
   obtain ⟨⟨a1,n1,d1⟩,⟨a2,n2,d2⟩⟩:=s
   unfold entV at kC
   simp only at c0 c1 c2 kC
   clear hcell hblt
   by_cases hT:cmpS (es.getD ((lo+hi) / 2) e3d).1 key<0
   ·have hY:=hcl.1 hT
    have HK2:Hid ((∀ i,i<(lo+hi) / 2+1→ltS (es.getD i e3d).1 key=true)∧∀ i,hi≤i→i<n→ltS (es.getD i e3d).1 key=false):=⟨fun i h3=>by
     by_cases e:i=(lo+hi) / 2
     ·rw [e];exact hY
     ·exact ltS_trans (memOk_lt hok (i:=i) (j:=(lo+hi) / 2) (by omega) (by omega)) hY,HK.out.2⟩
    generalize cmpS (es.getD ((lo+hi) / 2) e3d).1 key=c at *
    generalize (es.getD ((lo+hi) / 2) e3d).1=xk at *
    clear HK hcl hY
    go_wp2_with fail
    refine (kC _).mono ?_
    rintro e w1 ⟨rfl,hb⟩
    replace bw:=bel8 bw hb
    clear hb c0 c1 c2 kC
    go_wp2
    go_roundw
    case rel=>exact ⟨(lo+hi) / 2+1,hi,by omega,by omega,by rw [show ((lo:Int)+(hi:Int)) / 2+1=(((lo+hi) / 2+1:Nat):Int) by omega],rfl,HK2,bw⟩
    case measure=>simp [intOf];omega
   ·have hY:ltS (es.getD ((lo+hi) / 2) e3d).1 key=false:=by
     cases hq:ltS (es.getD ((lo+hi) / 2) e3d).1 key
     ·rfl
     ·exact absurd (hcl.2 hq) hT
    have HK2:Hid ((∀ i,i<lo→ltS (es.getD i e3d).1 key=true)∧∀ i,(lo+hi) / 2≤i→i<n→ltS (es.getD i e3d).1 key=false):=⟨HK.out.1,fun i h3 h4=>by
     by_cases e:i=(lo+hi) / 2
     ·rw [e];exact hY
     ·cases hc:ltS (es.getD i e3d).1 key
      ·rfl
      ·have:=ltS_trans (memOk_lt hok (i:=(lo+hi) / 2) (j:=i) (by omega) (by omega)) hc
       rw [hY] at this
       cases this⟩
    generalize cmpS (es.getD ((lo+hi) / 2) e3d).1 key=c at *
    generalize (es.getD ((lo+hi) / 2) e3d).1=xk at *
    clear HK hcl hY
    go_wp2_with fail
    refine (kC _).mono ?_
    rintro e w1 ⟨rfl,hb⟩
    replace bw:=bel8 bw hb
    clear hb c0 c1 c2 kC
    go_wp2
    go_roundw
    case rel=>exact ⟨lo,(lo+hi) / 2,by omega,by omega,rfl,by rw [show ((lo:Int)+(hi:Int)) / 2=(((lo+hi) / 2:Nat):Int) by omega],HK2,bw⟩
    case measure=>simp [intOf];omega
  ·obtain rfl:lo=hi:=by omega
   have hp:plcE es key=lo:=plcE_of HK.out.1 (by omega) (fun h3=>HK.out.2 lo (Nat.le_refl _) (by omega))
   have HI:Hid (isE es key=(decide (lo<n) && decide ((es.getD lo e3d).1=key))):=by rw [Hid,isE,hp,hl]
   rw [← HFB.out] at HI
   have HP:Hid (pl=lo):=by rw [Hid,HPL.out];exact hp
   clear HK hp HPL HFB
   by_cases hln:lo<n
   ·obtain ⟨_,_,_,hcase⟩:=h.below bw
    rcases hcase with e0 | ⟨b,off,rfl,hblt,hcell⟩
    ·omega
    obtain ⟨s,c0,c1,c2,_⟩:=hcell lo hln
    have hz:=cmpS_zero (es.getD lo e3d).1 key
    have kC:=fun W=>against_is (es.getD lo e3d).1 key s W
    have hln2:(lo:Int)<(n:Int):=by omega
    have hl0:(0:Int)≤(lo:Int):=by omega
    obtain ⟨⟨a1,n1,d1⟩,⟨a2,n2,d2⟩⟩:=s
    unfold entV at kC
    simp only at c0 c1 c2 kC
    clear hcell hblt
    have HB:Hid (fb=decide (cmpS (es.getD lo e3d).1 key=0)):=by
     rw [Hid,HI.out,decide_eq_true hln,Bool.true_and]
     simp only [hz]
    clear HI hz
    generalize cmpS (es.getD lo e3d).1 key=c at *
    generalize (es.getD lo e3d).1=xk at *
    go_wp2_with fail
    refine (kC _).mono ?_
    rintro e w1 ⟨rfl,hb⟩
    replace bw:=bel8 bw hb
    clear hb c0 c1 c2 kC
    go_wp2
    go_ret2
    exact ⟨by rw [HP.out,HB.out];rfl,bw⟩
   ·have HB:Hid (fb=false):=by rw [Hid,HI.out,decide_eq_false hln,Bool.false_and]
    have hln2:¬ (lo:Int)<(n:Int):=by omega
    clear HI
    go_wp2
    go_ret2
    exact ⟨by rw [HP.out,HB.out];rfl,bw⟩
theorem tableFind_is (a:Option Addr) (n cap:Nat) (es:List E3) (key:ByteArray) (w:World) (h:Ents w a n cap es) (hok:memOk es=true) :
  Calls Tryd.prog 53 #[.agg #[.slice a n cap],.string key] w fun e w'=>e=.returned (.tuple #[.int .i64 (plcE es key),.bool (isE es key)])∧Below w.heap.size w w':=by
 have bw:Below w.heap.size w (w.alloc (.cells #[.slice a n cap] 67)):=by go_grown
 have k:=search_is a n cap es key _ (h.below bw) hok
 go_enter Tryd.func53,Tryd.ntmps53
 go_wp2_with fail
 refine k.mono ?_
 rintro e w1 ⟨rfl,hb⟩
 replace bw:=bel8 bw hb
 go_wp2
 go_ret2
 exact ⟨rfl,bw⟩
end Go.Proofs.YthlcdhddickdiaaDoor
