/-
  Joined: Bug0, Ent0, BugPl, ItmI.
-/
import Derived.Test.YtdopgkbegjfhjaaGreatDoorR01

namespace Go.Proofs.YtdopgkbegjfhjaaGreatDoor
set_option maxRecDepth 100000
set_option maxHeartbeats 16000000
open Go.RowKit
set_option linter.unusedVariables false

theorem l01In_isB (n a b:Int) (w:World):Calls Tryz.prog 108 #[.int .i64 n,.int .i64 a,.int .i64 b] w fun e w'=>e=.returned (.bool (inB n a b))∧w=w':=by
 cases h:inB n a b
 ·exact l01In_no n a b w (inB_false.1 h)
 ·exact l01In_yes n a b w (inB_true.1 h)

def okB (x:I3):Bool:=
 if x.1=14 then decide (x.2.1=0) && decide (x.2.2=0)
 else if x.1=12∨x.1=13 then inB x.2.1 0 2 && inB x.2.2 0 5
 else false

theorem isThread_is (n:Int) (w:World):Calls Tryz.prog 173 #[.int .i64 n] w fun e w'=>e=.returned (.bool (inB n 0 2))∧w=w':=by
 cases h:inB n 0 2
 ·rw [inB_false] at h
  by_cases h1:0≤n
  ·have h2:decide (n<3)=false:=by simp;omega
   clear h
   go_enter Tryz.func173,Tryz.ntmps173
   go_wp2
   go_ret
   exact ⟨rfl,rfl⟩
  ·clear h
   go_enter Tryz.func173,Tryz.ntmps173
   go_wp2
   go_ret
   exact ⟨rfl,rfl⟩
 ·rw [inB_true] at h
  obtain ⟨h1,h3⟩:=h
  have h2:decide (n<3)=true:=by simp;omega
  clear h3
  go_enter Tryz.func173,Tryz.ntmps173
  go_wp2
  go_ret
  exact ⟨by simp_all,rfl⟩

theorem implBugOK_12 (a b:Int) (w:World):Calls Tryz.prog 159 #[.agg #[.int .i64 12,.int .i64 a,.int .i64 b]] w fun e w'=>e=.returned (.bool (inB a 0 2 && inB b 0 5))∧Below w.heap.size w w':=by
 have kA:=isThread_is a
 generalize inB a 0 2=p at kA
 cases p
 ·go_enter Tryz.func159,Tryz.ntmps159
  go_wp2_with fail
  refine (kA _).mono ?_
  rintro e w1 ⟨rfl,rfl⟩
  go_wp2
  go_ret
  exact ⟨rfl,by go_grown⟩
 ·cases h:inB b 0 5
  ·rw [inB_false] at h
   by_cases h1:0≤b
   ·have h2:decide (b<6)=false:=by simp;omega
    clear h
    go_enter Tryz.func159,Tryz.ntmps159
    go_wp2_with fail
    refine (kA _).mono ?_
    rintro e w1 ⟨rfl,rfl⟩
    go_wp2
    go_ret
    exact ⟨rfl,by go_grown⟩
   ·clear h
    go_enter Tryz.func159,Tryz.ntmps159
    go_wp2_with fail
    refine (kA _).mono ?_
    rintro e w1 ⟨rfl,rfl⟩
    go_wp2
    go_ret
    exact ⟨rfl,by go_grown⟩
  ·rw [inB_true] at h
   obtain ⟨h1,h3⟩:=h
   have h2:decide (b<6)=true:=by simp;omega
   clear h3
   go_enter Tryz.func159,Tryz.ntmps159
   go_wp2_with fail
   refine (kA _).mono ?_
   rintro e w1 ⟨rfl,rfl⟩
   go_wp2
   go_ret
   exact ⟨by simp_all,by go_grown⟩

theorem implBugOK_13 (a b:Int) (w:World):Calls Tryz.prog 159 #[.agg #[.int .i64 13,.int .i64 a,.int .i64 b]] w fun e w'=>e=.returned (.bool (inB a 0 2 && inB b 0 5))∧Below w.heap.size w w':=by
 have kA:=isThread_is a
 generalize inB a 0 2=p at kA
 cases p
 ·go_enter Tryz.func159,Tryz.ntmps159
  go_wp2_with fail
  refine (kA _).mono ?_
  rintro e w1 ⟨rfl,rfl⟩
  go_wp2
  go_ret
  exact ⟨rfl,by go_grown⟩
 ·cases h:inB b 0 5
  ·rw [inB_false] at h
   by_cases h1:0≤b
   ·have h2:decide (b<6)=false:=by simp;omega
    clear h
    go_enter Tryz.func159,Tryz.ntmps159
    go_wp2_with fail
    refine (kA _).mono ?_
    rintro e w1 ⟨rfl,rfl⟩
    go_wp2
    go_ret
    exact ⟨rfl,by go_grown⟩
   ·clear h
    go_enter Tryz.func159,Tryz.ntmps159
    go_wp2_with fail
    refine (kA _).mono ?_
    rintro e w1 ⟨rfl,rfl⟩
    go_wp2
    go_ret
    exact ⟨rfl,by go_grown⟩
  ·rw [inB_true] at h
   obtain ⟨h1,h3⟩:=h
   have h2:decide (b<6)=true:=by simp;omega
   clear h3
   go_enter Tryz.func159,Tryz.ntmps159
   go_wp2_with fail
   refine (kA _).mono ?_
   rintro e w1 ⟨rfl,rfl⟩
   go_wp2
   go_ret
   exact ⟨by simp_all,by go_grown⟩

theorem implBugOK_14 (a b:Int) (w:World):Calls Tryz.prog 159 #[.agg #[.int .i64 14,.int .i64 a,.int .i64 b]] w fun e w'=>e=.returned (.bool (decide (a=0) && decide (b=0)))∧Below w.heap.size w w':=by
 by_cases h:a=0
 ·subst h
  have hb:decide (b=0)=(b == 0):=rfl
  rw [hb]
  clear hb
  simp only [decide_true,Bool.true_and]
  go_enter Tryz.func159,Tryz.ntmps159
  go_wp2
  go_ret
  exact ⟨rfl,by go_grown⟩
 ·go_enter Tryz.func159,Tryz.ntmps159
  go_wp2
  go_ret
  exact ⟨by simp [h],by go_grown⟩

theorem specBugOK_14 (a b:Int) (w:World):Calls Tryz.prog 111 #[.agg #[.int .i64 14,.int .i64 a,.int .i64 b]] w fun e w'=>e=.returned (.bool (decide (a=0) && decide (b=0)))∧Below w.heap.size w w':=by
 by_cases h:a=0
 ·subst h
  have hb:decide (b=0)=(b == 0):=rfl
  rw [hb]
  clear hb
  simp only [decide_true,Bool.true_and]
  go_enter Tryz.func111,Tryz.ntmps111
  go_wp2
  go_ret
  exact ⟨rfl,by go_grown⟩
 ·go_enter Tryz.func111,Tryz.ntmps111
  go_wp2
  go_ret
  exact ⟨by simp [h],by go_grown⟩

theorem implBugOK_0 (c a b:Int) (w:World) (h:c≠12∧c≠13∧c≠14):Calls Tryz.prog 159 #[.agg #[.int .i64 c,.int .i64 a,.int .i64 b]] w fun e w'=>e=.returned (.bool false)∧Below w.heap.size w w':=by
 obtain ⟨h1,h2,h3⟩:=h
 go_enter Tryz.func159,Tryz.ntmps159
 go_wp2
 go_ret
 exact ⟨rfl,by go_grown⟩

theorem specBugOK_0 (c a b:Int) (w:World) (h:c≠12∧c≠13∧c≠14):Calls Tryz.prog 111 #[.agg #[.int .i64 c,.int .i64 a,.int .i64 b]] w fun e w'=>e=.returned (.bool false)∧Below w.heap.size w w':=by
 obtain ⟨h1,h2,h3⟩:=h
 go_enter Tryz.func111,Tryz.ntmps111
 go_wp2
 go_ret
 exact ⟨rfl,by go_grown⟩

theorem specBugOK_12 (a b:Int) (w:World):Calls Tryz.prog 111 #[.agg #[.int .i64 12,.int .i64 a,.int .i64 b]] w fun e w'=>e=.returned (.bool (inB a 0 2 && inB b 0 5))∧Below w.heap.size w w':=by
 have kA:=l01In_isB a 0 2
 have kB:=l01In_isB b 0 5
 generalize inB a 0 2=p at kA
 generalize inB b 0 5=q at kB
 go_enter Tryz.func111,Tryz.ntmps111
 go_wp2_with fail
 refine (kA _).mono ?_
 rintro e w1 ⟨rfl,rfl⟩
 cases p
 ·go_wp2_with fail
  go_ret
  exact ⟨rfl,by go_grown⟩
 ·go_wp2_with fail
  refine (kB _).mono ?_
  rintro e w1 ⟨rfl,rfl⟩
  go_wp2_with fail
  go_ret
  exact ⟨rfl,by go_grown⟩

theorem specBugOK_13 (a b:Int) (w:World):Calls Tryz.prog 111 #[.agg #[.int .i64 13,.int .i64 a,.int .i64 b]] w fun e w'=>e=.returned (.bool (inB a 0 2 && inB b 0 5))∧Below w.heap.size w w':=by
 have kA:=l01In_isB a 0 2
 have kB:=l01In_isB b 0 5
 generalize inB a 0 2=p at kA
 generalize inB b 0 5=q at kB
 go_enter Tryz.func111,Tryz.ntmps111
 go_wp2_with fail
 refine (kA _).mono ?_
 rintro e w1 ⟨rfl,rfl⟩
 cases p
 ·go_wp2_with fail
  go_ret
  exact ⟨rfl,by go_grown⟩
 ·go_wp2_with fail
  refine (kB _).mono ?_
  rintro e w1 ⟨rfl,rfl⟩
  go_wp2_with fail
  go_ret
  exact ⟨rfl,by go_grown⟩

theorem implBugOK_is (x:I3) (w:World):Calls Tryz.prog 159 #[x.val] w fun e w'=>e=.returned (.bool (okB x))∧Below w.heap.size w w':=by
 obtain ⟨c,a,b⟩:=x
 unfold I3.val okB
 by_cases h4:c=14
 ·subst h4
  simpa using implBugOK_14 a b w
 by_cases h2:c=12
 ·subst h2
  simpa using implBugOK_12 a b w
 by_cases h3:c=13
 ·subst h3
  simpa using implBugOK_13 a b w
 ·simpa [h4,h2,h3] using implBugOK_0 c a b w ⟨h2,h3,h4⟩

theorem specBugOK_is (x:I3) (w:World):Calls Tryz.prog 111 #[x.val] w fun e w'=>e=.returned (.bool (okB x))∧Below w.heap.size w w':=by
 obtain ⟨c,a,b⟩:=x
 unfold I3.val okB
 by_cases h4:c=14
 ·subst h4
  simpa using specBugOK_14 a b w
 by_cases h2:c=12
 ·subst h2
  simpa using specBugOK_12 a b w
 by_cases h3:c=13
 ·subst h3
  simpa using specBugOK_13 a b w
 ·simpa [h4,h2,h3] using specBugOK_0 c a b w ⟨h2,h3,h4⟩

open Go.RowKit Go.ChangeShapes Go.WideShapes Go.Joins
set_option linter.unusedSimpArgs false

abbrev E3:=ByteArray × List I3 × List Int
abbrev Sl2:=Sl × Sl
def entV (k:ByteArray) (s:Sl2):Value:=.agg #[.string k,.slice s.1.1 s.1.2.1 s.1.2.2,.slice s.2.1 s.2.2.1 s.2.2.2]
def entC (k:ByteArray) (s:Sl2):List Value:=[.string k,.slice s.1.1 s.1.2.1 s.1.2.2,.slice s.2.1 s.2.2.1 s.2.2.2]
def Nil0 (s:Sl2):Prop:=(s.1.1=none→s.1.2.2=0)∧(s.2.1=none→s.2.2.2=0)
def Emem (w:World) (s:Sl2) (e:E3):Prop:=(e.1.size≤maxLen∧Nil0 s)∧Instrs w s.1.1 s.1.2.1 s.1.2.2 e.2.1∧SlInts w s.2 e.2.2
theorem Emem.below {w w':World} {s:Sl2} {e:E3} (h:Emem w s e) (hb:Below w.heap.size w w'):Emem w' s e:=⟨h.1,h.2.1.below hb,h.2.2.below hb⟩
def e3d:E3:=(ByteArray.empty,[],[])
def Ents (w:World) (a:Option Addr) (len cap:Nat) (es:List E3):Prop:=
 es.length=len∧len≤cap∧cap≤maxLen∧(len=0∨∃ b off,a=some ⟨b,off,none⟩∧b<w.heap.size∧∀ t,t<len →
  ∃ s:Sl2,w.cell? ⟨b,off+t*3,none⟩=some (.string (es.getD t e3d).1)∧w.cell? ⟨b,off+t*3+1,none⟩=some (.slice s.1.1 s.1.2.1 s.1.2.2)∧w.cell? ⟨b,off+t*3+2,none⟩=some (.slice s.2.1 s.2.2.1 s.2.2.2)∧Emem w s (es.getD t e3d))
theorem Ents.below {w w':World} {a:Option Addr} {len cap:Nat} {es:List E3} (h:Ents w a len cap es) (hb:Below w.heap.size w w'):Ents w' a len cap es:=by
 obtain ⟨h1,h2,h3,h4⟩:=h
 refine ⟨h1,h2,h3,?_⟩
 rcases h4 with h4 | ⟨b,off,ha,hlt,hc⟩
 ·exact .inl h4
 ·refine .inr ⟨b,off,ha,by have:=hb.size;omega,fun t ht=>?_⟩
  obtain ⟨s,c0,c1,c2,hm⟩:=hc t ht
  exact ⟨s,by rw [hb.cell (p:=⟨b,_,none⟩) hlt];exact c0,by rw [hb.cell (p:=⟨b,_,none⟩) hlt];exact c1,by rw [hb.cell (p:=⟨b,_,none⟩) hlt];exact c2,hm.below hb⟩

section
variable {H : Type} {enc : TypeId × Value → H} {w : World} {base : Nat} {spare : Nat → Bool} {held : Bool}
end


def ltB (a b:I3):Bool:=decide (a.1<b.1∨(a.1=b.1∧(a.2.1<b.2.1∨(a.2.1=b.2.1∧a.2.2<b.2.2))))
theorem ltB_iff {a b:I3}:ltB a b=true↔a.1<b.1∨(a.1=b.1∧(a.2.1<b.2.1∨(a.2.1=b.2.1∧a.2.2<b.2.2))):=by simp [ltB]
theorem ltB_irrefl (a:I3):ltB a a=false:=by
 cases h:ltB a a
 ·rfl
 ·rw [ltB_iff] at h;omega
theorem ltB_trans {a b c:I3} (h:ltB a b=true) (k:ltB b c=true):ltB a c=true:=by
 rw [ltB_iff] at *;omega
theorem ltB_asymm {a b:I3} (h:ltB a b=true):ltB b a=false:=by
 cases k:ltB b a
 ·rfl
 ·rw [ltB_iff] at h k;omega
theorem ltB_total {a b:I3} (h:ltB a b=false) (k:ltB b a=false):a=b:=by
 obtain ⟨a0,a1,a2⟩:=a
 obtain ⟨b0,b1,b2⟩:=b
 have h':¬ ltB (a0,a1,a2) (b0,b1,b2)=true:=by simp [h]
 have k':¬ ltB (b0,b1,b2) (a0,a1,a2)=true:=by simp [k]
 rw [ltB_iff] at h' k'
 simp only at h' k'
 have e0:a0=b0:=by omega
 have e1:a1=b1:=by omega
 have e2:a2=b2:=by omega
 rw [e0,e1,e2]

def Rises (l:List I3):Prop:=l.Pairwise fun a b=>ltB a b=true
theorem Rises.same:∀ {l k:List I3},Rises l→Rises k→(∀ x,x ∈ l↔x ∈ k)→l=k
 | [],[],_,_,_=>rfl
 | [],b::k,_,_,h=>by have:=(h b).2 (by simp);simp at this
 | a::l,[],_,_,h=>by have:=(h a).1 (by simp);simp at this
 | a::l,b::k,hl,hk,h=>by
  have hl':=List.pairwise_cons.1 hl
  have hk':=List.pairwise_cons.1 hk
  have e:a=b:=by
   rcases List.mem_cons.1 ((h a).1 (by simp)) with e | e
   ·exact e
   rcases List.mem_cons.1 ((h b).2 (by simp)) with e' | e'
   ·exact e'.symm
   have h1:=hk'.1 a e
   have h2:=hl'.1 b e'
   rw [ltB_asymm h1] at h2
   cases h2
  subst e
  rw [Rises.same hl'.2 hk'.2 (fun x=>?_)]
  constructor
  ·intro hx
   rcases List.mem_cons.1 ((h x).1 (List.mem_cons_of_mem _ hx)) with e | e
   ·subst e
    have:=hl'.1 x hx
    rw [ltB_irrefl] at this
    cases this
   ·exact e
  ·intro hx
   rcases List.mem_cons.1 ((h x).2 (List.mem_cons_of_mem _ hx)) with e | e
   ·subst e
    have:=hk'.1 x hx
    rw [ltB_irrefl] at this
    cases this
   ·exact e

def putB:List I3→I3→List I3
 | [],b=>[b]
 | x::xs,b=>if ltB x b then x::putB xs b else if x=b then x::xs else b::x::xs
theorem mem_putB {x b:I3}:∀ {l:List I3},x ∈ putB l b↔x ∈ l∨x=b
 | []=>by simp [putB]
 | y::l=>by
  have ih:=mem_putB (x:=x) (b:=b) (l:=l)
  unfold putB
  split
  ·simp [ih,or_assoc]
  ·split
   ·rename_i h
    subst h
    simp
    intro e
    exact .inl e
   ·simp
    constructor
    ·rintro (h | h | h)
     ·exact .inr h
     ·exact .inl (.inl h)
     ·exact .inl (.inr h)
    ·rintro ((h | h) | h)
     ·exact .inr (.inl h)
     ·exact .inr (.inr h)
     ·exact .inl h
theorem Rises.put {b:I3}:∀ {l:List I3},Rises l→Rises (putB l b)
 | [],_=>by simp [putB,Rises]
 | y::l,h=>by
  have h':=List.pairwise_cons.1 h
  unfold putB
  split
  ·rename_i hy
   refine List.pairwise_cons.2 ⟨fun z hz=>?_,Rises.put h'.2⟩
   rcases mem_putB.1 hz with e | e
   ·exact h'.1 z e
   ·rw [e];exact hy
  ·rename_i hy
   split
   ·exact h
   ·rename_i hne
    have hby:ltB b y=true:=by
     cases k:ltB b y
     ·exact absurd (ltB_total (by simpa using hy) k) hne
     ·rfl
    refine List.pairwise_cons.2 ⟨fun z hz=>?_,h⟩
    rcases List.mem_cons.1 hz with e | e
    ·rw [e];exact hby
    ·exact ltB_trans hby (h'.1 z e)


def inB8 (n a b:Int):Bool:=decide (a≤n∧n≤b)
theorem inB8_true {n a b:Int}:inB8 n a b=true↔a≤n∧n≤b:=by simp [inB8]
theorem inB8_false {n a b:Int}:inB8 n a b=false↔¬ (a≤n∧n≤b):=by simp only [inB8,decide_eq_false_iff_not]
theorem l01In8 (n a b:Int) (w:World):Calls Tryz.prog 108 #[.int .i64 n,.int .i64 a,.int .i64 b] w fun e w'=>e=.returned (.bool (inB8 n a b))∧w=w':=by
 cases h:inB8 n a b
 ·exact l01In_no n a b w (inB8_false.1 h)
 ·exact l01In_yes n a b w (inB8_true.1 h)

theorem isThread8 (n:Int) (w:World):Calls Tryz.prog 173 #[.int .i64 n] w fun e w'=>e=.returned (.bool (inB8 n 0 2))∧w=w':=by
 cases h:inB8 n 0 2
 ·rw [inB8_false] at h
  by_cases h1:0≤n
  ·have h2:decide (n<3)=false:=by simp;omega
   clear h
   go_enter Tryz.func173,Tryz.ntmps173
   go_wp2
   go_ret
   exact ⟨rfl,rfl⟩
  ·clear h
   go_enter Tryz.func173,Tryz.ntmps173
   go_wp2
   go_ret
   exact ⟨rfl,rfl⟩
 ·rw [inB8_true] at h
  obtain ⟨h1,h3⟩:=h
  have h2:decide (n<3)=true:=by simp;omega
  clear h3
  go_enter Tryz.func173,Tryz.ntmps173
  go_wp2
  go_ret
  exact ⟨by simp_all,rfl⟩

theorem isPlace8 (n:Int) (w:World):Calls Tryz.prog 177 #[.int .i64 n] w fun e w'=>e=.returned (.bool (inB8 n 0 6))∧w=w':=by
 cases h:inB8 n 0 6
 ·rw [inB8_false] at h
  by_cases h1:0≤n
  ·have h2:decide (n≤6)=false:=by simp;omega
   clear h
   go_enter Tryz.func177,Tryz.ntmps177
   go_wp2
   go_ret
   exact ⟨rfl,rfl⟩
  ·clear h
   go_enter Tryz.func177,Tryz.ntmps177
   go_wp2
   go_ret
   exact ⟨rfl,rfl⟩
 ·rw [inB8_true] at h
  obtain ⟨h1,h3⟩:=h
  have h2:decide (n≤6)=true:=by simp;omega
  clear h3
  go_enter Tryz.func177,Tryz.ntmps177
  go_wp2
  go_ret
  exact ⟨by simp_all,rfl⟩

def itOk (n:Int):Bool:=decide (0≤n∧n≤22∧n % 8≤6)
def atV (n:Int):Value:=if itOk n=true then .tuple #[.int .i64 (n / 8),.int .i64 (n % 8),.int .i64 0] else .tuple #[.int .i64 0,.int .i64 0,.int .i64 4]
theorem atV_yes {n:Int} (h:itOk n=true):atV n=.tuple #[.int .i64 (n / 8),.int .i64 (n % 8),.int .i64 0]:=if_pos h
theorem atV_no {n:Int} (h:itOk n=false):atV n=.tuple #[.int .i64 0,.int .i64 0,.int .i64 4]:=if_neg (by rw [h];simp)

theorem quo8 (n:Int) (h:-9223372036854775808≤n∧n≤9223372036854775807):∃ q r:Int,n.tdiv 8=q∧n.tmod 8=r∧IntKind.i64.wrap q=q∧IntKind.i64.wrap r=r∧itOk n=(inB8 q 0 2 && inB8 r 0 6)∧(itOk n=true→q=n / 8∧r=n % 8)∧(0≤n→q=n / 8∧r=n % 8):=by
 rcases Int.lt_or_le n 0 with hn | hn
 ·have e1:n.tdiv 8=- ((-n) / 8):=by
   have:n=- (- n):=by omega
   rw [this,Int.neg_tdiv,Int.tdiv_eq_ediv_of_nonneg (by omega)];omega
  have e2:n.tmod 8=- ((-n) % 8):=by
   have:n=- (- n):=by omega
   rw [this,Int.neg_tmod,Int.tmod_eq_emod_of_nonneg (by omega)];omega
  refine ⟨_,_,e1,e2,by rw [IntKind.wrap_i64];omega,by rw [IntKind.wrap_i64];omega,?_,?_,by omega⟩
  ·have hz:itOk n=false:=by simp only [itOk,decide_eq_false_iff_not];omega
   rw [hz]
   symm
   rw [Bool.and_eq_false_iff]
   rcases Int.lt_or_le ((-n) / 8) 1 with h1 | h1
   ·right;rw [inB8_false];omega
   ·left;rw [inB8_false];omega
  ·intro hz
   simp only [itOk,decide_eq_true_eq] at hz
   omega
 ·have e1:n.tdiv 8=n / 8:=Int.tdiv_eq_ediv_of_nonneg hn
  have e2:n.tmod 8=n % 8:=Int.tmod_eq_emod_of_nonneg hn
  refine ⟨_,_,e1,e2,by rw [IntKind.wrap_i64];omega,by rw [IntKind.wrap_i64];omega,?_,fun _=>⟨rfl,rfl⟩,fun _=>⟨rfl,rfl⟩⟩
  rw [Bool.eq_iff_iff,Bool.and_eq_true,inB8_true,inB8_true]
  simp only [itOk,decide_eq_true_eq]
  omega

theorem implItemAt_is (n:Int) (hn:-9223372036854775808≤n∧n≤9223372036854775807) (w:World):Calls Tryz.prog 172 #[.int .i64 n] w fun e w'=>e=.returned (atV n)∧w=w':=by
 obtain ⟨q,r,e1,e2,u1,u2,hOk,hYes,_⟩:=quo8 n hn
 clear hn
 have kT:=isThread8 q
 have kP:=isPlace8 r
 cases hA:inB8 q 0 2
 ·rw [atV_no (by rw [hOk,hA];rfl)]
  rw [hA] at kT
  clear hA hOk hYes
  go_enter Tryz.func172,Tryz.ntmps172
  go_wp2_with fail
  refine (kT _).mono ?_
  rintro e w1 ⟨rfl,rfl⟩
  go_wp2
  go_ret3
  exact ⟨rfl,rfl⟩
 ·cases hB:inB8 r 0 6
  ·rw [atV_no (by rw [hOk,hA,hB];rfl)]
   rw [hA] at kT
   rw [hB] at kP
   clear hA hB hOk hYes
   go_enter Tryz.func172,Tryz.ntmps172
   go_wp2_with fail
   refine (kT _).mono ?_
   rintro e w1 ⟨rfl,rfl⟩
   go_wp2_with fail
   refine (kP _).mono ?_
   rintro e w1 ⟨rfl,rfl⟩
   go_wp2
   go_ret3
   exact ⟨rfl,rfl⟩
  ·have hz:itOk n=true:=by rw [hOk,hA,hB];rfl
   rw [atV_yes hz]
   obtain ⟨f1,f2⟩:=hYes hz
   rw [hA] at kT
   rw [hB] at kP
   rw [← f1,← f2]
   clear hA hB hOk hYes hz f1 f2
   go_enter Tryz.func172,Tryz.ntmps172
   go_wp2_with fail
   refine (kT _).mono ?_
   rintro e w1 ⟨rfl,rfl⟩
   go_wp2_with fail
   refine (kP _).mono ?_
   rintro e w1 ⟨rfl,rfl⟩
   go_wp2
   go_ret3
   exact ⟨rfl,rfl⟩

theorem l08OK_is (n:Int) (hn:-9223372036854775808≤n∧n≤9223372036854775807) (w:World):Calls Tryz.prog 142 #[.int .i64 n] w fun e w'=>e=.returned (.bool (itOk n))∧w=w':=by
 rcases Int.lt_or_le n 0 with h0 | h0
 ·have hz:itOk n=false:=by simp only [itOk,decide_eq_false_iff_not];omega
  rw [hz]
  clear hz hn
  have g0:decide (0≤n)=false:=by simp;omega
  go_enter Tryz.func142,Tryz.ntmps142
  go_wp2
  go_ret
  exact ⟨rfl,rfl⟩
 ·obtain ⟨q,r,e1,e2,u1,u2,hOk,_,hPos⟩:=quo8 n hn
  clear hn
  have hr0:0≤r:=by have:=(hPos h0).2;omega
  have kT:=l01In8 q 0 2
  rw [hOk]
  cases hA:inB8 q 0 2
  ·rw [hA] at kT
   clear hA hOk hPos
   go_enter Tryz.func142,Tryz.ntmps142
   go_wp2_with fail
   refine (kT _).mono ?_
   rintro e w1 ⟨rfl,rfl⟩
   go_wp2
   go_ret
   exact ⟨rfl,rfl⟩
  ·rw [hA] at kT
   cases hB:inB8 r 0 6
   ·have h2:decide (r≤6)=false:=by have:=inB8_false.1 hB;simp;omega
    clear hA hB hOk hPos
    go_enter Tryz.func142,Tryz.ntmps142
    go_wp2_with fail
    refine (kT _).mono ?_
    rintro e w1 ⟨rfl,rfl⟩
    go_wp2
    go_ret
    exact ⟨rfl,rfl⟩
   ·have h2:decide (r≤6)=true:=by have:=inB8_true.1 hB;simp;omega
    clear hA hB hOk hPos
    go_enter Tryz.func142,Tryz.ntmps142
    go_wp2_with fail
    refine (kT _).mono ?_
    rintro e w1 ⟨rfl,rfl⟩
    go_wp2
    go_ret
    exact ⟨by simp_all,rfl⟩

theorem isItem_is (n:Int) (hn:-9223372036854775808≤n∧n≤9223372036854775807) (w:World):Calls Tryz.prog 157 #[.int .i64 n] w fun e w'=>e=.returned (.bool (itOk n))∧w=w':=by
 have kO:=implItemAt_is n hn
 clear hn
 cases hA:itOk n
 ·rw [atV_no hA] at kO
  clear hA
  go_enter Tryz.func157,Tryz.ntmps157
  go_wp2_with fail
  refine (kO _).mono ?_
  rintro e w1 ⟨rfl,rfl⟩
  go_wp2
  go_ret
  exact ⟨rfl,rfl⟩
 ·rw [atV_yes hA] at kO
  clear hA
  go_enter Tryz.func157,Tryz.ntmps157
  go_wp2_with fail
  refine (kO _).mono ?_
  rintro e w1 ⟨rfl,rfl⟩
  go_wp2
  go_ret
  exact ⟨rfl,rfl⟩

theorem in_wf8 {n:Int} (h:(Lit.int .i64 n).wf=true):-9223372036854775808≤n∧n≤9223372036854775807:=by
 have h1:IntKind.i64.min=-9223372036854775808:=by decide
 have h2:IntKind.i64.max=9223372036854775807:=by decide
 simp [Lit.wf,h1,h2] at h
 omega
end Go.Proofs.YtdopgkbegjfhjaaGreatDoor
