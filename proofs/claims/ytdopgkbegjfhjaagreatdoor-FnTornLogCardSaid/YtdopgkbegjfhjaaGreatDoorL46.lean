/-
  Joined: RecY, RecU.
-/
import Derived.Test.YtdopgkbegjfhjaaGreatDoorL25
import Derived.Test.YtdopgkbegjfhjaaGreatDoorL33
import Derived.Test.YtdopgkbegjfhjaaGreatDoorL39

namespace Go.Proofs.YtdopgkbegjfhjaaGreatDoor
set_option maxRecDepth 100000
set_option maxHeartbeats 16000000
open Go.RowKit
set_option linter.unusedVariables false
set_option linter.unusedSimpArgs false

theorem sumTo_bt (s:ByteArray) (k:Nat) (h:k<s.size):sumTo s (k+1)=(131*sumTo s k+(bt s k:Int)) % 16381:=by
 rw [sumTo_succ s k h,bt_get]
theorem sumTo_pos (s:ByteArray) (hs:s.size≤16000):∀ k,k≤s.size→0≤sumTo s k∧sumTo s k<16381
 | 0,_=>by
  unfold sumTo
  omega
 | k+1,h=>by
  rw [sumTo_bt s k (by omega)]
  omega
theorem sumTo_congr {a b:ByteArray} (hs:a.size=b.size):∀ k,k≤a.size→(∀ i,i<k→bt a i=bt b i)→sumTo a k=sumTo b k
 | 0,_,_=>by unfold sumTo;rw [hs]
 | k+1,h1,h=>by
  rw [sumTo_bt a k (by omega),sumTo_bt b k (by omega),sumTo_congr hs k (by omega) (fun i hi=>h i (by omega)),h k (by omega)]
theorem sumTo_bent {a b:ByteArray} (i:Nat) (hs:a.size=b.size) (h16:a.size≤16000) (hd:bt a i≠bt b i) (hlo:∀ j,j<i→bt a j=bt b j) (hhi:∀ j,i<j→j<a.size→bt a j=bt b j):∀ n,i<n→n≤a.size→sumTo a n≠sumTo b n
 | 0,h,_=>by omega
 | n+1,h,hn=>by
  have pa:=sumTo_pos a h16 n (by omega)
  have pb:=sumTo_pos b (by omega) n (by omega)
  rw [sumTo_bt a n (by omega),sumTo_bt b n (by omega)]
  by_cases e:i=n
  ·subst e
   have:=sumTo_congr hs i (by omega) hlo
   rw [this]
   have la:=bt_lt a i
   have lb:=bt_lt b i
   omega
  ·have ih:=sumTo_bent i hs h16 hd hlo hhi n (by omega) (by omega)
   rw [hhi n (by omega) (by omega)]
   intro h9
   exact ih (sum_step pa.1 pa.2 pb.1 pb.2 h9)

def bentF (F:ByteArray) (d:Nat) (u:ByteArray):ByteArray:=F.extract 0 d++u++F.extract (d+1) F.size
theorem bentF_size {F u:ByteArray} {d:Nat} (hd:d<F.size) (hu:u.size=1):(bentF F d u).size=F.size:=bent_size F u d hd hu
theorem bentF_lo {F u:ByteArray} {d i:Nat} (hd:d<F.size) (hi:i<d):bt (bentF F d u) i=bt F i:=bent_bt F u d i hd hi
theorem bentF_at {F u:ByteArray} {d:Nat} (hd:d<F.size) (hu:u.size=1):bt (bentF F d u) d=bt u 0:=by
 have h1:(F.extract 0 d).size=d:=by simp;omega
 unfold bentF
 rw [bt_app _ _ d (by rw [ByteArray.size_append];omega)]
 have:=bt_right (F.extract 0 d) u 0 (by omega)
 rw [h1] at this
 exact this
theorem bentF_hi {F u:ByteArray} {d i:Nat} (hd:d<F.size) (hu:u.size=1) (hi:d<i) (hs:i<F.size):bt (bentF F d u) i=bt F i:=by
 have h1:(F.extract 0 d++u).size=d+1:=by rw [ByteArray.size_append,hu];simp;omega
 have h2:(F.extract (d+1) F.size).size=F.size - (d+1):=by simp
 unfold bentF
 have:=bt_right (F.extract 0 d++u) (F.extract (d+1) F.size) (i - (d+1)) (by omega)
 rw [h1,bt_cut] at this
 rw [show d+1+(i - (d+1))=i by omega] at this
 exact this
theorem bt_ext (s:ByteArray) (p q i:Nat) (h:p+i<q) (hq:q≤s.size):bt (s.extract p q) i=bt s (p+i):=by
 have h1:i<(s.extract p q).size:=by simp;omega
 unfold bt
 rw [dif_pos h1,dif_pos (show p+i<s.size by omega)]
 congr 1
 simp [ByteArray.getElem_extract]
theorem rec_text_pos {r:R2} (h:RecOk r):0<r.2.size:=by
 rcases h.2 with ⟨_,rows,hP⟩ | ⟨_,e,hR⟩ | ⟨_,zs,hL,_⟩
 ·rcases hP with ⟨_,zs,⟨k,hk,_⟩,_⟩ | ⟨h9,_⟩
  ·have:=hk.1.2.2.1
   have:=hk.1.1
   omega
  ·cases h9
 ·have:=hR.2.1
  omega
 ·obtain ⟨k,hk,_⟩:=hL
  have:=hk.1.2.2.1
  have:=hk.1.1
  omega
theorem rec_one {r:R2} (h:RecOk r) (h1:r.2.size=1):r.1=3∧bt r.2 0=0:=by
 rcases h.2 with ⟨_,rows,hP⟩ | ⟨_,e,hR⟩ | ⟨h3,zs,hL,_⟩
 ·rcases hP with ⟨_,zs,hL,hp,_⟩ | ⟨h9,_⟩
  ·obtain ⟨k,hk,_,hz⟩:=hL
   exfalso
   have h5:=hk.1.2.2.1
   have h6:=hk.1.1
   obtain rfl:k=1:=by omega
   cases zs with
   | nil=>cases hp
   | cons z zs =>
    obtain ⟨j,hj,_⟩:=hz
    have:=hj.1.2.2.1
    have:=hj.1.1
    omega
  ·cases h9
 ·have:=hR.2.1
  omega
 ·refine ⟨h3,?_⟩
  obtain ⟨k,hk,_,hz⟩:=hL
  have h5:=hk.1.2.2.1
  have h6:=hk.1.1
  obtain rfl:k=1:=by omega
  cases zs with
  | nil =>
   have h7:=hk.2.2.1
   have h8:=hk.1.2.2.2.2
   simp only [val,List.length_nil] at h7
   simp only [Nat.zero_add,Nat.sub_self] at h8
   omega
  | cons z zs =>
   obtain ⟨j,hj,_⟩:=hz
   have:=hj.1.2.2.1
   have:=hj.1.1
   omega
theorem pack_one9 {n:Nat} (h:n<128):(pack n).length=1:=by
 unfold pack
 rw [if_pos h]
 rfl
theorem no_nxt_bent (r:R2) (h:RecOk r) (d:Nat) (hd:d<(frameOf (recT r)).size) (h5:(frameOf (recT r)).size≤d+5) (u v:ByteArray) (hu:u.size=1) (hne:bt u 0≠bt (frameOf (recT r)) d) (hx:bt (frameOf (recT r)) d=2→bt u 0=3) (r':R2) (n':Nat) :
  ¬ Nxt (bentF (frameOf (recT r)) d u++v) r' n':=by
 have hz:=recT_small h
 have hxs:=recT_size r
 have hpos:=rec_text_pos h
 obtain ⟨x,hxd⟩:∃ x,x=recT r:=⟨_,rfl⟩
 rw [← hxd] at hd h5 hne hx hz hxs ⊢
 have hF:=frame9_size x
 have hK:=K9_le x
 have g:=framed9 x ByteArray.empty (by omega)
 have gb:=bytes9 x ByteArray.empty (by omega)
 have gt:=text9 x ByteArray.empty
 rw [ByteArray.append_empty] at g gb gt
 obtain ⟨F,hFd⟩:∃ F,F=frameOf x:=⟨_,rfl⟩
 rw [← hFd] at hd h5 hne hx hF g gb gt ⊢
 have hbs:=bentF_size (u:=u) hd hu
 have hss:(bentF F d u++v).size=F.size+v.size:=by rw [ByteArray.size_append,hbs]
 obtain ⟨s,hsd⟩:∃ s,s=bentF F d u++v:=⟨_,rfl⟩
 have slo:∀ i,i<d→bt s i=bt F i:=fun i hi=>by rw [hsd,bt_app _ _ i (by omega)];exact bentF_lo hd hi
 have sat:bt s d=bt u 0:=by rw [hsd,bt_app _ _ d (by omega)];exact bentF_at hd hu
 have shi:∀ i,d<i→i<F.size→bt s i=bt F i:=fun i hi hi2=>by rw [hsd,bt_app _ _ i (by omega)];exact bentF_hi hd hu hi hi2
 rw [← hsd] at hss ⊢
 rintro ⟨m',k',hf,hsum,hm0,_⟩
 have hsF:=sumAt9 gb
 by_cases hdK:K9 x≤d
 ·have hn:Num s 0 x.size (K9 x):=num_congr (fun i hi=>(slo i (by omega)).symm) (by omega) g.1
  obtain ⟨rfl,rfl⟩:=hf.1.only hn
  have hts:(frameText s x.size (K9 x)).size=x.size:=frameText_size s _ _ hf.2.2
  have tb:∀ i,i<x.size→bt (frameText s x.size (K9 x)) i=bt s (K9 x+2+i):=fun i hi=>bt_ext s _ _ i (by omega) (by omega)
  have xb:∀ i,i<x.size→bt x i=bt F (K9 x+2+i):=fun i hi=>by
   have:=bt_ext F (K9 x+2) (K9 x+2+x.size) i (by omega) (by omega)
   rw [← this]
   conv=>lhs;rw [← gt]
   rfl
  by_cases hd2:K9 x+2≤d
  ·have hsa:sumAt s (K9 x)=sumAt F (K9 x):=by unfold sumAt;rw [slo _ (by omega),slo _ (by omega)]
   rw [hsa,hsF,hts] at hsum
   refine sumTo_bent (a:=frameText s x.size (K9 x)) (b:=x) (d - (K9 x+2)) hts (by omega) ?_ ?_ ?_ x.size (by omega) (by omega) hsum.symm
   ·rw [tb _ (by omega),xb _ (by omega),show K9 x+2+(d - (K9 x+2))=d by omega,sat]
    exact hne
   ·intro j hj
    rw [tb _ (by omega),xb _ (by omega)]
    exact slo _ (by omega)
   ·intro j hj hj2
    rw [tb _ (by omega),xb _ (by omega)]
    exact shi _ (by omega) (by omega)
  ·have htx:sumTo (frameText s x.size (K9 x)) x.size=sumTo x x.size:=sumTo_congr hts x.size (by omega) (fun i hi=>by
    rw [tb i hi,xb i hi]
    exact shi _ (by omega) (by omega))
   rw [hts,htx,← hsF] at hsum
   unfold sumAt at hsum
   rcases (by omega:d=K9 x∨d=K9 x+1) with rfl | rfl
   ·rw [sat,shi _ (by omega) (by omega)] at hsum
    omega
   ·rw [sat,slo _ (by omega)] at hsum
    omega
 ·have hm2:x.size=2:=by omega
  have hK1:K9 x=1:=by unfold K9;rw [hm2];exact pack_one9 (by omega)
  obtain rfl:d=0:=by omega
  have hr1:r.2.size=1:=by omega
  obtain ⟨r3,rb⟩:=rec_one h hr1
  have hF0:bt F 0=2:=by
   have:=(bytesAt_left gb).2 0 (by have:=hK.1;unfold K9 at this;omega)
   rw [hm2] at this
   simp only [Nat.zero_add] at this
   have e9:(pack 2).getD 0 0=2:=by decide
   omega
  have hu3:=hx hF0
  have hn:Num s 0 3 1:=by
   refine ⟨⟨by omega,by omega,by omega,fun i hi=>absurd hi (by omega),?_⟩,by omega,?_,by omega⟩
   ·rw [show 0+1 - 1=0 from rfl,sat,hu3];omega
   ·simp only [val];rw [sat,hu3]
  obtain ⟨rfl,rfl⟩:=hf.1.only hn
  have hts:(frameText s 3 1).size=3:=frameText_size s _ _ hf.2.2
  have hs6:=hf.2.2
  have tb:∀ i,i<3→bt (frameText s 3 1) i=bt s (3+i):=fun i hi=>bt_ext s _ _ i (by omega) (by omega)
  have xb:∀ i,i<2→bt x i=bt F (3+i):=fun i hi=>by
   have:=bt_ext F (K9 x+2) (K9 x+2+x.size) i (by omega) (by omega)
   rw [hK1] at this
   rw [show (3:Nat)=1+2 from rfl,← this]
   conv=>lhs;rw [← gt]
   unfold frameText
   rw [hK1]
  have hsa:sumAt s 1=sumAt F 1:=by unfold sumAt;rw [shi _ (by omega) (by omega),shi _ (by omega) (by omega)]
  rw [hK1] at hsF
  rw [hsa,hsF,hts,hm2] at hsum
  have hb9:=bt_lt (frameText s 3 1) 2
  have x0:(bt x 0:Int)=51:=by
   have:=bt_recT r h
   rw [← hxd,r3] at this
   omega
  have x1:bt x 1=0:=by
   rw [hxd]
   unfold recT
   have:=bt_right (strOfNums [48+r.1]) r.2 0 (by omega)
   rw [strOfNums_size] at this
   exact this.trans rb
  have t0:(bt (frameText s 3 1) 0:Int)=51:=by
   rw [tb 0 (by omega),shi _ (by omega) (by omega),← xb 0 (by omega)]
   exact x0
  have t1:bt (frameText s 3 1) 1=0:=by
   rw [tb 1 (by omega),shi _ (by omega) (by omega),← xb 1 (by omega)]
   exact x1
  have s0:sumTo x 0=3:=by unfold sumTo;rw [hm2];rfl
  have s1:=sumTo_bt x 0 (by omega)
  have s2:=sumTo_bt x 1 (by omega)
  rw [x1] at s2
  rw [s0,x0] at s1
  have q0:sumTo (frameText s 3 1) 0=4:=by unfold sumTo;rw [hts];rfl
  have q1:=sumTo_bt (frameText s 3 1) 0 (by omega)
  have q2:=sumTo_bt (frameText s 3 1) 1 (by omega)
  have q3:=sumTo_bt (frameText s 3 1) 2 (by omega)
  rw [q0,t0] at q1
  rw [t1] at q2
  simp only [Nat.zero_add,Nat.reduceAdd] at s1 s2 q1 q2 q3
  rw [s1] at s2
  rw [q1] at q2
  rw [q2] at q3
  rw [s2,q3] at hsum
  omega


def catF:List R2→ByteArray
 | []=>⟨#[]⟩
 | r::rs=>frameOf (recT r)++catF rs
theorem catF_app:∀ rs qs:List R2,catF (rs++qs)=catF rs++catF qs
 | [],qs=>ByteArray.empty_append.symm
 | r::rs,qs=>by
  show frameOf (recT r)++catF (rs++qs)=frameOf (recT r)++catF rs++catF qs
  rw [catF_app rs qs,ByteArray.append_assoc]
theorem catF_snoc (rs:List R2) (r:R2):catF (rs++[r])=catF rs++frameOf (recT r):=by
 rw [catF_app]
 show catF rs++(frameOf (recT r)++(⟨#[]⟩:ByteArray))=_
 rw [show frameOf (recT r)++(⟨#[]⟩:ByteArray)=frameOf (recT r) from ByteArray.append_empty]
theorem log_cat:∀ (rs:List R2),(∀ r ∈ rs,RecOk r)→∀ {u:ByteArray} {qs:List R2} {e:Nat},LogAt u 0 qs e→LogAt (catF rs++u) 0 (rs++qs) ((catF rs).size+e)
 | [],_,u,qs,e,h=>by
  have h1:catF []++u=u:=ByteArray.empty_append
  have h2:(catF []).size+e=e:=Nat.zero_add e
  rw [h1,h2]
  exact h
 | r::rs,hr,u,qs,e,h=>by
  have ih:=log_cat rs (fun x hx=>hr x (List.mem_cons_of_mem _ hx)) h
  have:=log_cons r (hr r List.mem_cons_self) ih
  have h1:catF (r::rs)++u=frameOf (recT r)++(catF rs++u):=by
   show frameOf (recT r)++catF rs++u=_
   rw [ByteArray.append_assoc]
  have h2:(catF (r::rs)).size+e=(frameOf (recT r)).size+((catF rs).size+e):=by
   show (frameOf (recT r)++catF rs).size+e=_
   rw [ByteArray.size_append]
   omega
  rw [h1,h2]
  exact this
theorem log_all (rs:List R2) (hr:∀ r ∈ rs,RecOk r):LogAt (catF rs) 0 rs (catF rs).size:=by
 have:=log_cat rs hr log_empty
 rw [show catF rs++(⟨#[]⟩:ByteArray)=catF rs from ByteArray.append_empty,List.append_nil] at this
 exact this
theorem bend_mid (a f c u:ByteArray) (d:Nat) (hd:d<f.size):(a++(f++c)).extract 0 (a.size+d)++u++(a++(f++c)).extract (a.size+d+1) (a++(f++c)).size=a++(bentF f d u++c):=by
 apply ByteArray.ext
 apply Array.ext'
 have e0:a.size=a.data.toList.length:=by rw [Array.length_toList];rfl
 have e1:f.size=f.data.toList.length:=by rw [Array.length_toList];rfl
 have e2:c.size=c.data.toList.length:=by rw [Array.length_toList];rfl
 unfold bentF
 simp only [ByteArray.size_append,ByteArray.data_extract,ByteArray.data_append,Array.toList_extract,Array.toList_append,List.extract_eq_take_drop,e0,e1,e2] at hd ⊢
 generalize a.data.toList=A at *
 generalize f.data.toList=F at *
 generalize c.data.toList=C at *
 generalize u.data.toList=U at *
 have h1:(A++(F++C)).drop (A.length+d+1)=F.drop (d+1)++C:=by
  rw [List.drop_append,List.drop_of_length_le (by omega),List.nil_append,show A.length+d+1 - A.length=d+1 by omega,List.drop_append,show d+1 - F.length=0 by omega,List.drop_zero]
 have h2:(A++(F++C)).take (A.length+d)=A++F.take d:=by
  rw [List.take_append,List.take_of_length_le (by omega),show A.length+d - A.length=d by omega,List.take_append,show d - F.length=0 by omega,List.take_zero,List.append_nil]
 simp only [List.drop_zero,Nat.sub_zero]
 rw [h1,h2,List.take_of_length_le (l:=List.drop (d+1) F++C) (by rw [List.length_append,List.length_drop];omega),List.take_of_length_le (l:=List.drop (d+1) F) (by rw [List.length_drop];omega)]
 simp only [List.append_assoc]
theorem log_bent (pre post:List R2) (r:R2) (hp:∀ x ∈ pre,RecOk x) (hr:RecOk r) (d:Nat) (hd:d<(frameOf (recT r)).size) (h5:(frameOf (recT r)).size≤d+5) (u:ByteArray) (hu:u.size=1) (hne:bt u 0≠bt (frameOf (recT r)) d) (hx:bt (frameOf (recT r)) d=2→bt u 0=3) :
  LogAt ((catF (pre++r::post)).extract 0 ((catF pre).size+d)++u++(catF (pre++r::post)).extract ((catF pre).size+d+1) (catF (pre++r::post)).size) 0 pre (catF pre).size:=by
 have e:catF (pre++r::post)=catF pre++(frameOf (recT r)++catF post):=catF_app pre (r::post)
 rw [e,bend_mid _ _ _ _ _ hd]
 have:=log_cat pre hp (log_nil (no_nxt_bent r hr d hd h5 u (catF post) hu hne hx))
 rw [List.append_nil,Nat.add_zero] at this
 exact this
theorem catF_small:∀ (rs:List R2),(∀ r ∈ rs,RecOk r)→(catF rs).size≤rs.length*1007
 | [],_=>by show (0:Nat)≤_;omega
 | r::rs,h=>by
  have ih:=catF_small rs (fun x hx=>h x (List.mem_cons_of_mem _ hx))
  have h0:=h r List.mem_cons_self
  have hz:=recT_small h0
  have hk:=K9_le (recT r)
  have hf:=frame9_size (recT r)
  show (frameOf (recT r)++catF rs).size≤_
  rw [ByteArray.size_append,List.length_cons]
  omega
theorem frame_five {r:R2} (h:RecOk r):5≤(frameOf (recT r)).size:=by
 have:=rec_text_pos h
 have:=recT_size r
 have:=K9_le (recT r)
 rw [frame9_size]
 omega
def endsI (rs:List R2):List Int:=(List.range (rs.length+1)).map fun i=>((catF (rs.take i)).size:Int)
theorem endsI_snoc (rs:List R2) (r:R2):endsI (rs++[r])=endsI rs++[((catF (rs++[r])).size:Int)]:=by
 unfold endsI
 rw [List.length_append,List.length_singleton,List.range_succ,List.map_append]
 congr 1
 ·apply List.map_congr_left
  intro i hi
  rw [List.take_append_of_le_length (by have:=List.mem_range.1 hi;omega)]
 ·simp only [List.map_cons,List.map_nil]
  rw [List.take_of_length_le (by simp)]
theorem endsI_get (rs:List R2) (i:Nat) (h:i≤rs.length):(endsI rs)[i]?=some ((catF (rs.take i)).size:Int):=by
 unfold endsI
 simp [List.getElem?_map,List.getElem?_range (show i<rs.length+1 by omega)]
end Go.Proofs.YtdopgkbegjfhjaaGreatDoor
