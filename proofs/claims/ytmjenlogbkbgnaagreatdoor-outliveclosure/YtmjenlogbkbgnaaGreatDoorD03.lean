import Derived.Test.YtmjenlogbkbgnaaGreatDoorC02
import Derived.Test.YtmjenlogbkbgnaaGreatDoorC06
import Derived.Shelf.Spec.TrailingZeros
import Derived.Lib.TrailingZeros
import Derived.Lib.LaidTab
namespace Go.Proofs.YtmjenlogbkbgnaaGreatDoor
open Go.RowKit Go.Shelf
set_option linter.unusedVariables false
set_option linter.unusedSimpArgs false
set_option maxRecDepth 100000
set_option maxHeartbeats 4000000
theorem below_of_grown {w w':World} (h:w.grownBy w' none):Below w.heap.size w w':=bR.grown h (Nat.le_refl _) (by simp)
theorem From_no (w:World) (a:Option Addr) (m cap:Nat) (l:List (Int × Int)) (hP:PrR w a m cap l) (c r:Int) (hb:frB l c r=false) :
  Calls Tryz.prog 19 #[.slice a m cap,.int .i64 c,.int .i64 r] w fun e w'=>e=.returned (.tuple #[.slice none 0 0,.int .i64 2])∧Below w.heap.size w w':=by
 have C:=jH (isBelow_any c r)
 have C2:=jH (areBelow_any c a m cap l w hP)
 clear hP
 by_cases h1:c<0
 ·clear hb C C2
  go_enter Tryz.func19,Tryz.ntmps19
  go_wp2_with fail
  go_ret2
  exact ⟨rfl,Below.refl _ _⟩
 ·by_cases h2:512<c
  ·clear hb C C2
   go_enter Tryz.func19,Tryz.ntmps19
   go_wp2_with fail
   go_ret2
   exact ⟨rfl,Below.refl _ _⟩
  ·cases hx:blwB c r with
   | false =>
    rw [hx] at C
    clear hb C2 hx
    go_enter Tryz.func19,Tryz.ntmps19
    go_wp2_with (go_at_call 46;refine (C.out _).mono ?_;rintro e w1 ⟨rfl,hw⟩;subst hw)
    go_ret2
    exact ⟨rfl,Below.refl _ _⟩
   | true =>
    have hy:l.any (outB c)=true:=by
     have e1:decide (0≤c)=true:=by simp;omega
     have e2:decide (c≤512)=true:=by simp;omega
     unfold frB at hb
     rw [e1,e2,hx] at hb
     simpa using hb
    rw [hx] at C
    rw [hy] at C2
    clear hb hx hy
    go_enter Tryz.func19,Tryz.ntmps19
    go_wp2_with (go_at_call 46;refine (C.out _).mono ?_;rintro e w1 ⟨rfl,hw⟩;subst hw)
    go_wp2_with (go_at_call 42;refine C2.out.mono ?_;rintro e w1 ⟨rfl,hB⟩;have HB:=jH hB;clear hB)
    go_ret2
    exact ⟨rfl,HB.out⟩
def WCells (w:World) (a:Option Addr) (zs:List Int):Prop :=
 zs≠[]→∃ g off,a=some ⟨g,off,none⟩∧g<w.heap.size∧∀ i z,zs[i]?=some z→w.cell? ⟨g,off+i,none⟩=some (.int .u64 z)
theorem WCells.bel {w w':World} {a:Option Addr} {zs:List Int} (h:WCells w a zs) (k:Below w.heap.size w w'):WCells w' a zs:=fun hz=>by
 obtain ⟨g,off,h1,h2,h3⟩:=h hz
 exact ⟨g,off,h1,Nat.lt_of_lt_of_le h2 k.size,fun i z hi=>(k.cell (p:=⟨g,off+i,none⟩) h2).trans (h3 i z hi)⟩
structure Rw where
 x:Int
 a:Option Addr
 cap:Nat
 zs:List Int
abbrev Rw.v (r:Rw):Value:=.agg #[.int .i64 r.x,.slice r.a r.zs.length r.cap]
abbrev Rw.o (r:Rw):Obj:=.cells #[.int .i64 r.x,.slice r.a r.zs.length r.cap] 48
structure RwAt (W:World) (r:Rw):Prop where
 x0:-9223372036854775808≤r.x
 x1:r.x≤9223372036854775807
 big:r.zs.length≤maxLen
 wd:∀ z∈r.zs,0≤z∧z<18446744073709551616
 c:WCells W r.a r.zs
theorem RwAt.bel {W W':World} {r:Rw} (h:RwAt W r) (k:Below W.heap.size W W'):RwAt W' r:=⟨h.x0,h.x1,h.big,h.wd,h.c.bel k⟩
def mayR (x:Int) (zs:List Int):Bool :=
 decide (0≤x) && decide (x≤1032) && decide ((zs.length:Int)=(x+63) / 64) && (decide (x % 64=0) || zs.getD (zs.length - 1) 0 / 2 ^ (x % 64).toNat == 0)
theorem At.rwo {W:World} {b:Nat} {r:Rw} (h:At W b r.o):W.cell? ⟨b,0,none⟩=some (.int .i64 r.x)∧W.cell? ⟨b,1,none⟩=some (.slice r.a r.zs.length r.cap):=by
 unfold At at h
 refine ⟨?_,?_⟩ <;> simp [World.cell?,h]
theorem isRow_width (r:Rw) (w:World) (h:RwAt w r) (hx:¬ (0≤r.x∧r.x≤1032)):Calls Tryz.prog 74 #[r.v] w fun e w'=>e=.returned (.bool false)∧Below w.heap.size w w':=by
 have HA:=jH (At.new w r.o)
 obtain ⟨c0,c1⟩:=HA.out.rwo
 obtain ⟨x,a,cap,zs⟩:=r
 simp only at hx c0 c1
 clear h
 rcases Int.lt_or_le x 0 with h0|h0
 ·clear hx
  go_enter Tryz.func74,Tryz.ntmps74
  go_wp2_with fail
  go_ret
  exact ⟨rfl,belA bR⟩
 ·have h1:1032<x:=by omega
  have h2:¬ x<0:=by omega
  clear hx h0
  go_enter Tryz.func74,Tryz.ntmps74
  go_wp2_with fail
  go_ret
  exact ⟨rfl,belA bR⟩
theorem isRow_many (r:Rw) (w:World) (h:RwAt w r) (h0:0≤r.x) (h1:r.x≤1032) (hn:(r.zs.length:Int)≠(r.x+63) / 64):Calls Tryz.prog 74 #[r.v] w fun e w'=>e=.returned (.bool false)∧Below w.heap.size w w':=by
 have HA:=jH (At.new w r.o)
 obtain ⟨c0,c1⟩:=HA.out.rwo
 have hb:=h.big
 obtain ⟨x,a,cap,zs⟩:=r
 simp only at h0 h1 c0 c1 hn hb
 have h2:¬ x<0:=by omega
 have h3:¬ 1032<x:=by omega
 have hq:(x+64 - 1).tdiv 64=(x+63) / 64:=by rw [Int.tdiv_eq_ediv_of_nonneg (by omega)];congr 1;omega
 have hne:((zs.length:Int) != (x+63) / 64)=true:=by simpa using hn
 unfold maxLen at hb
 clear h hn
 go_enter Tryz.func74,Tryz.ntmps74
 go_wp2_with fail
 go_ret
 exact ⟨rfl,belA bR⟩
theorem isRow_full (r:Rw) (w:World) (h:RwAt w r) (h0:0≤r.x) (h1:r.x≤1032) (hn:(r.zs.length:Int)=(r.x+63) / 64) (hm:r.x % 64=0):Calls Tryz.prog 74 #[r.v] w fun e w'=>e=.returned (.bool true)∧Below w.heap.size w w':=by
 have HA:=jH (At.new w r.o)
 obtain ⟨c0,c1⟩:=HA.out.rwo
 obtain ⟨x,a,cap,zs⟩:=r
 simp only at h0 h1 c0 c1 hn hm
 have h2:¬ x<0:=by omega
 have h3:¬ 1032<x:=by omega
 have hq:(x+64 - 1).tdiv 64=(x+63) / 64:=by rw [Int.tdiv_eq_ediv_of_nonneg (by omega)];congr 1;omega
 have hr:x.tmod 64=0:=by rw [Int.tmod_eq_emod_of_nonneg (by omega)];exact hm
 have hne:((zs.length:Int) != (x+63) / 64)=false:=by simpa using hn
 have hb:zs.length≤100:=by omega
 clear h hn
 go_enter Tryz.func74,Tryz.ntmps74
 go_wp2_with fail
 go_ret
 exact ⟨rfl,belA bR⟩
theorem isRow_part (r:Rw) (w:World) (h:RwAt w r) (h0:0≤r.x) (h1:r.x≤1032) (hn:(r.zs.length:Int)=(r.x+63) / 64) (hm:¬ r.x % 64=0):Calls Tryz.prog 74 #[r.v] w fun e w'=>e=.returned (.bool (r.zs.getD (r.zs.length - 1) 0 / 2 ^ (r.x % 64).toNat == 0))∧Below w.heap.size w w':=by
 have HA:=jH (At.new w r.o)
 obtain ⟨c0,c1⟩:=HA.out.rwo
 have hc:=h.c.bel (belA (Below.refl w.heap.size w) (o:=r.o))
 have hw:=h.wd
 obtain ⟨x,a,cap,zs⟩:=r
 simp only at h0 h1 c0 c1 hn hm hc hw
 have hb:zs.length≤100:=by omega
 have hl1:1≤zs.length:=by omega
 obtain ⟨g,off,rfl,hg,hcc⟩:=hc (by intro hh;simp [hh] at hl1)
 obtain ⟨z,hz⟩:∃ z,zs[zs.length - 1]?=some z:=⟨_,List.getElem?_eq_getElem (by omega)⟩
 have cz:=hcc _ _ hz
 have hzd:zs.getD (zs.length - 1) 0=z:=by simp [hz]
 obtain ⟨hz0,hz1⟩:=hw _ (List.mem_of_getElem? hz)
 rw [hzd]
 have hto:((zs.length:Int) - 1).toNat=zs.length - 1:=by omega
 have i0:(0:Int)≤(zs.length:Int) - 1:=by omega
 have i1:(zs.length:Int) - 1<(zs.length:Int):=by omega
 have h2:¬ x<0:=by omega
 have h3:¬ 1032<x:=by omega
 have hq:(x+64 - 1).tdiv 64=(x+63) / 64:=by rw [Int.tdiv_eq_ediv_of_nonneg (by omega)];congr 1;omega
 obtain ⟨u,hu⟩:∃ u,u=x % 64:=⟨_,rfl⟩
 have hr:x.tmod 64=u:=by rw [Int.tmod_eq_emod_of_nonneg (by omega),hu]
 have hu0:(u == 0)=false:=by rw [hu];simpa using hm
 have u0:0≤u:=by omega
 have u1:u<64:=by omega
 have hne:((zs.length:Int) != (x+63) / 64)=false:=by simpa using hn
 rw [← hu]
 clear h hn hw hcc hz hzd hu hm
 go_enter Tryz.func74,Tryz.ntmps74
 go_wp2_with fail
 go_ret
 exact ⟨rfl,belA bR⟩
theorem isRow_any (r:Rw) (w:World) (h:RwAt w r):Calls Tryz.prog 74 #[r.v] w fun e w'=>e=.returned (.bool (mayR r.x r.zs))∧Below w.heap.size w w':=by
 by_cases h0:0≤r.x∧r.x≤1032
 ·obtain ⟨h0,h1⟩:=h0
  by_cases hn:(r.zs.length:Int)=(r.x+63) / 64
  ·by_cases hm:r.x % 64=0
   ·refine (isRow_full r w h h0 h1 hn hm).mono fun e w' h=>⟨?_,h.2⟩
    rw [h.1];simp [mayR,h0,h1,hn,hm]
   ·refine (isRow_part r w h h0 h1 hn hm).mono fun e w' h=>⟨?_,h.2⟩
    rw [h.1];simp [mayR,h0,h1,hn,hm]
  ·refine (isRow_many r w h h0 h1 hn).mono fun e w' h=>⟨?_,h.2⟩
   rw [h.1];simp [mayR,hn]
 ·refine (isRow_width r w h h0).mono fun e w' h'=>⟨?_,h'.2⟩
  rw [h'.1]
  have:(decide (0≤r.x) && decide (r.x≤1032))=false:=by
   simp only [Bool.and_eq_false_iff,decide_eq_false_iff_not];omega
  simp only [mayR,this,Bool.false_and]
structure RsR (W:World) (a:Option Addr) (n cap:Nat) (L:List Rw):Prop where
 len:n=L.length
 big:n≤maxLen
 cells:L≠[]→∃ g off,a=some ⟨g,off,none⟩∧g<W.heap.size∧∀ i r,L[i]?=some r→W.cell? ⟨g,off+i*2,none⟩=some (.int .i64 r.x)∧W.cell? ⟨g,off+i*2+1,none⟩=some (.slice r.a r.zs.length r.cap)
 at_:∀ r∈L,RwAt W r
theorem RsR.bel {W W':World} {a:Option Addr} {n cap:Nat} {L:List Rw} (h:RsR W a n cap L) (k:Below W.heap.size W W'):RsR W' a n cap L:=⟨h.len,h.big,fun hl=>by
 obtain ⟨g,off,h1,h2,h3⟩:=h.cells hl
 exact ⟨g,off,h1,Nat.lt_of_lt_of_le h2 k.size,fun i p hp=>⟨(k.cell (p:=⟨g,off+i*2,none⟩) h2).trans (h3 i p hp).1,(k.cell (p:=⟨g,off+i*2+1,none⟩) h2).trans (h3 i p hp).2⟩⟩,fun r hr=>(h.at_ r hr).bel k⟩
def badR (x:Int) (r:Rw):Bool:=decide (r.x≠x) || !mayR r.x r.zs
theorem rows1_wide (r r0:Rw) (b:Nat) (a:Option Addr) (n cap:Nat) (L:List Rw) (w:World) (hA:At w b (One (.slice a n cap) 44)) (hL:RsR w a n cap L) (h0:L[0]?=some r0) (hx:r.x≠r0.x):Calls Tryz.prog 73 #[r.v,.pointer (some ⟨b,0,none⟩)] w fun e w'=>e=.returned (.bool true)∧Below w.heap.size w w':=by
 have HB1:Hid (Below w.heap.size w (w.alloc r.o)):=jH (belA bR)
 obtain ⟨c0,c1⟩:=(At.new w r.o).rwo
 obtain ⟨y0,-⟩:=(hA.below HB1.out).one
 have hne:L≠[]:=by intro hh;simp [hh] at h0
 obtain ⟨g,off,rfl,hg,hcc⟩:=(hL.bel HB1.out).cells hne
 have z0:=(hcc 0 r0 h0).1
 simp only [Nat.zero_mul,Nat.add_zero] at z0
 have n0:(0:Int)<(n:Int):=by have:=hL.len;have:=List.length_pos_iff.2 hne;omega
 have hxx:(r.x != r0.x)=true:=by simpa using hx
 have hlt:=hA.lt
 clear hA hL hcc hx h0
 go_enter Tryz.func73,Tryz.ntmps73
 go_upto_region 1 with fail
 go_quiet (fail)
 go_wp2_with fail
 go_ret
 exact ⟨rfl,belN HB1.out _⟩
theorem rows1_same (r r0:Rw) (b:Nat) (a:Option Addr) (n cap:Nat) (L:List Rw) (w:World) (hr:RwAt w r) (hA:At w b (One (.slice a n cap) 44)) (hL:RsR w a n cap L) (h0:L[0]?=some r0) (hx:r.x=r0.x):Calls Tryz.prog 73 #[r.v,.pointer (some ⟨b,0,none⟩)] w fun e w'=>e=.returned (.bool (!mayR r.x r.zs))∧Below w.heap.size w w':=by
 have HB1:Hid (Below w.heap.size w (w.alloc r.o)):=jH (belA bR)
 have HA1:=jH (At.new w r.o)
 have HAb:=jH (hA.below HB1.out)
 have HL:=jH (hL.bel HB1.out)
 have hne:L≠[]:=by intro hh;simp [hh] at h0
 obtain ⟨g,off,rfl,-,-⟩:=hL.cells hne
 have n0:(0:Int)<(n:Int):=by have:=hL.len;have:=List.length_pos_iff.2 hne;omega
 have hlt:=hA.lt
 have C:=jH (isRow_any r _ ((hr.bel HB1.out).bel (belN bR 1)))
 have n1:¬ n=0:=by omega
 have HX:=jH hx
 clear hA hL hr hx
 go_enter Tryz.func73,Tryz.ntmps73
 go_upto_region 1 with fail
 refine beginH (S:=fun V=>At V w.heap.size r.o∧At V b (One (.slice (some ⟨g,off,none⟩) n cap) 44)∧RsR V (some ⟨g,off,none⟩) n cap L) (fun _ _ _ _ _ h=>h) (by kernel_rfl) ⟨HA1.out.drew,HAb.out.drew,HL.out.bel (belN bR 1)⟩ (fun hq hH=>?_)
 refine tz 0 4 (.pointer (some ⟨w.heap.size,0,none⟩)) hq rfl rfl hH ?_
 simp only [pb,pc]
 refine tq 1 5 (.int .i64 r.x) hq rfl rfl (fun W hSw=>by (obtain ⟨x0,x1⟩:=At.rwo hSw.1;go_simp;try rfl)) hH ?_
 simp only [pb,pc]
 refine tq 2 6 (.slice (some ⟨g,off,none⟩) n cap) hq rfl rfl (fun W hSw=>by (obtain ⟨y0,-⟩:=At.one hSw.2.1;go_simp;try rfl)) hH ?_
 simp only [pb,pc]
 refine tz 3 7 (.pointer (some ⟨g,off,none⟩)) hq rfl rfl hH ?_
 simp only [pb,pc]
 refine tz 4 8 (.pointer (some ⟨g,off,none⟩)) hq rfl rfl hH ?_
 simp only [pb,pc]
 refine tq 5 9 (.int .i64 r0.x) hq rfl rfl (fun W hSw=>by (obtain ⟨gg,og,eg,hgg,hcc⟩:=hSw.2.2.cells hne;cases eg;have z0:=(hcc 0 r0 h0).1;simp only [Nat.zero_mul,Nat.add_zero] at z0;go_simp;try rfl)) hH ?_
 simp only [pb,pc]
 refine tq 6 10 (.bool false) hq rfl rfl (fun W hSw=>by (have hxx:(r.x != r0.x)=false:=(by simpa using HX.out);go_simp;try rfl)) hH ?_
 simp only [pb,pc]
 refine tz 7 11 (.bool false) hq rfl rfl hH ?_
 simp only [pb,pc]
 refine tq 8 12 (r.v) hq rfl rfl (fun W hSw=>by (obtain ⟨x0,x1⟩:=At.rwo hSw.1;go_simp;try rfl)) hH ?_
 simp only [pb,pc]
 refine aR1 9 rfl (fun K hK=>?_)
 go_simp
 refine C.out.mono ?_
 rintro e w2 ⟨rfl,hb⟩
 have HB2:=jH (jB (belN HB1.out 1) hb)
 have hH2:At w2 w.heap.size r.o∧At w2 b (One (.slice (some ⟨g,off,none⟩) n cap) 44)∧RsR w2 (some ⟨g,off,none⟩) n cap L:=⟨hH.1.below hb,hH.2.1.below hb,hH.2.2.bel hb⟩
 clear hb C
 go_wp2_with fail
 refine hK.out _ _ hH2 (fun hH=>?_)
 clear hK K hH2
 try simp only [Act.put,List.setIfInBounds_toArray,pb,pc]
 refine tz 10 14 (.bool (!mayR r.x r.zs)) hq rfl rfl hH ?_
 simp only [pb,pc]
 refine tz 11 15 (.bool (!mayR r.x r.zs)) hq rfl rfl hH ?_
 simp only [pb,pc]
 refine tz 12 3 (.bool (!mayR r.x r.zs)) hq rfl rfl hH ?_
 simp only [pb,pc]
 refine wpAnyH_done (by kernel_rfl) ?_ _
 clear hH hq
 go_wp2_with fail
 go_ret
 exact ⟨rfl,HB2.out⟩
theorem rows1_any (x:Int) (r r0:Rw) (b:Nat) (a:Option Addr) (n cap:Nat) (L:List Rw) (w:World) (hr:RwAt w r) (hA:At w b (One (.slice a n cap) 44)) (hL:RsR w a n cap L) (h0:L[0]?=some r0) (hx:r0.x=x):Calls Tryz.prog 73 #[r.v,.pointer (some ⟨b,0,none⟩)] w fun e w'=>e=.returned (.bool (badR x r))∧Below w.heap.size w w':=by
 by_cases h:r.x=r0.x
 ·refine (rows1_same r r0 b a n cap L w hr hA hL h0 h).mono fun e w' k=>⟨?_,k.2⟩
  rw [k.1]
  simp [badR,h,hx]
 ·refine (rows1_wide r r0 b a n cap L w hA hL h0 h).mono fun e w' k=>⟨?_,k.2⟩
  rw [k.1]
  rw [hx] at h
  simp [badR,h]
theorem idxR_any (x:Int) (b:Nat) (a:Option Addr) (m cap:Nat) (l:List Rw) (w:World) (h:RsR w a m cap l) (hA:At w b (One (.slice a m cap) 44)) (hx:∀ r0,l[0]?=some r0→r0.x=x) :
  Calls Tryz.prog 94 #[.slice a m cap,fnB 73 b] w fun e w'=>∃ r:Int,e=.returned (.int .i64 r)∧decide (0≤r)=l.any (badR x)∧Below w.heap.size w w':=by
 have H:=jH h
 have HA:=jH hA
 have HX:=jH hx
 have HL:=jH h.len
 have m0:(m:Int)≤9223372036854775807:=by have:=h.big;unfold maxLen at this;omega
 have hen:∀ (args:Array Value) (W:World),(callFunc 73 args).run Tryz.prog W=.ok (.enter 73 args) W:=fun args W=>by kernel_rfl
 clear h hA hx
 go_enter Tryz.func94,Tryz.ntmps94
 go_wp2_with fail
 go_loopw [8] (fun v V=>∃ i:Nat,i≤m∧v=.int .i64 (i:Int)∧(∀ (j:Nat) (p:Rw),j<i→l[j]?=some p→badR x p=false)∧Below w.heap.size w V) (fun v _=>m - (intOf v).toNat)
 case atStart=>exact ⟨0,Nat.zero_le _,rfl,fun j p h=>by omega,Below.refl _ _⟩
 case round =>
  obtain ⟨i,hi,rfl,h1,hB⟩:=hrel
  have HI:=jH h1
  have HB:=jH hB
  clear h1 hB
  by_cases hlt:i<m
  ·obtain ⟨p,hp⟩:∃ p,l[i]?=some p:=⟨_,List.getElem?_eq_getElem (by have:=HL.out;omega)⟩
   obtain ⟨r0,hr0⟩:∃ p,l[0]?=some p:=⟨_,List.getElem?_eq_getElem (by have:=HL.out;omega)⟩
   have hne:l≠[]:=by intro hh;simp [hh] at hp
   obtain ⟨g,off,ea,hg,hcc⟩:=(H.out.bel HB.out).cells hne
   obtain ⟨c0,c1⟩:=hcc i p hp
   have C:=jH (fun (V:World) (hV:Below w.heap.size w V)=>rows1_any x p r0 b a m cap l V ((H.out.at_ p (List.mem_of_getElem? hp)).bel hV) (HA.out.below hV) (H.out.bel hV) hr0 (HX.out r0 hr0))
   have ea2:a=some ⟨g,off,none⟩:=ea
   subst ea2
   obtain ⟨r,hr⟩:∃ r,r=badR x p:=⟨_,rfl⟩
   rw [← hr] at C
   have i0:(0:Int)≤(i:Int):=by omega
   have i1:(i:Int)<(m:Int):=by omega
   have HLT:=jH hlt
   have HP:=jH hp
   have HR:=jH hr
   obtain ⟨px,pa,pc,pz⟩:=p
   clear hlt hp ea hi hr hcc hr0 hne
   simp only at c0 c1
   cases r with
   | true =>
    go_wp2_with ((refine (C.out _ HB.out).mono ?_);rintro e w1 ⟨rfl,hb⟩;have HB2:=jH (jB HB.out hb);clear hb)
    go_ret
    refine ⟨_,rfl,?_,HB2.out⟩
    have:l.any (badR x)=true:=List.any_eq_true.2 ⟨_,List.mem_of_getElem? HP.out,HR.out.symm⟩
    rw [this]
    simp
   | false =>
    go_wp2_with ((refine (C.out _ HB.out).mono ?_);rintro e w1 ⟨rfl,hb⟩;have HB2:=jH (jB HB.out hb);clear hb)
    refine ⟨⟨i+1,HLT.out,rfl,fun j q hj hq=>?_,HB2.out⟩,?_⟩
    ·rcases Nat.lt_or_ge j i with h1|h1
     ·exact HI.out j q h1 hq
     ·obtain rfl:j=i:=by omega
      have:=HP.out
      rw [hq] at this
      cases this
      exact HR.out.symm
    ·show m - ((i:Int)+1).toNat<m - (i:Int).toNat
     have:=HLT.out
     omega
  ·obtain rfl:i=m:=by omega
   have lt:¬ (i:Int)<(i:Int):=by omega
   clear hlt hi
   go_wp2_with fail
   go_ret
   refine ⟨_,rfl,?_,HB.out⟩
   have:l.any (badR x)=false:=by
    rw [List.any_eq_false]
    intro p hp
    obtain ⟨j,hj⟩:=List.getElem?_of_mem hp
    have:=(List.getElem?_eq_some_iff.1 hj).1
    rw [HI.out j p (by have:=HL.out;omega) hj]
    simp
   rw [this]
   simp
theorem hasR_any (x:Int) (b:Nat) (a:Option Addr) (m cap:Nat) (l:List Rw) (w:World) (h:RsR w a m cap l) (hA:At w b (One (.slice a m cap) 44)) (hx:∀ r0,l[0]?=some r0→r0.x=x) :
  Calls Tryz.prog 72 #[.slice a m cap,fnB 73 b] w fun e w'=>e=.returned (.bool (l.any (badR x)))∧Below w.heap.size w w':=by
 have C:=jH (idxR_any x b a m cap l w h hA hx)
 clear h hA hx
 go_enter Tryz.func72,Tryz.ntmps72
 go_wp2_with (go_at_call 94;refine C.out.mono ?_;rintro e w1 ⟨r,rfl,hr,hb⟩;have HR:=jH hr;have HB:=jH hb;clear hr hb)
 go_ret
 rw [← HR.out]
 exact ⟨rfl,HB.out⟩
def fstX:List Rw→Int
 | []=>0
 | r::_=>r.x
def goodR (l:List Rw):Bool:=!l.any (badR (fstX l))
theorem areRows_any (a:Option Addr) (m cap:Nat) (l:List Rw) (w:World) (h:RsR w a m cap l) :
  Calls Tryz.prog 41 #[.slice a m cap] w fun e w'=>e=.returned (.bool (goodR l))∧Below w.heap.size w w':=by
 have C:=jH (hasR_any (fstX l) w.heap.size a m cap l (w.alloc (One (.slice a m cap) 44)) (h.bel (belA bR)) (At.new _ _) (fun r0 h0=>by
  cases l with
  | nil=>simp at h0
  | cons r l=>simp at h0;rw [← h0];rfl))
 clear h
 unfold goodR
 go_enter Tryz.func41,Tryz.ntmps41
 go_wp2_with (go_at_call 72;refine C.out.mono ?_;rintro e w1 ⟨rfl,hb⟩;have HB:=jH (below1 hb);clear hb)
 go_ret
 exact ⟨rfl,HB.out⟩
def TabZ (W:World):Prop:=∀ j,j<Lib.deBruijn64tab.length→W.cell? ⟨0,j,none⟩=some (.int .u8 (Lib.deBruijn64tab.getD j 0))
theorem TabZ.bel {W W':World} (h:TabZ W) (k:Below W.heap.size W W'):TabZ W':=fun j hj=>(k.cell (p:=⟨0,j,none⟩) (World.block_lt_of_cell? W _ (h j hj))).trans (h j hj)
theorem tz_core (x k idx:Nat) (w:World) (hx0:((x:Int) == 0)=false)
  (key:IntKind.u64.wrap (bits BinOp.and IntKind.u64 (x:Int) (IntKind.u64.wrap (-(x:Int)))*285870213051353865) / 288230376151711744=(idx:Int))
  (hi:idx<64) (hk:k<64) (hcell:w.cell? ⟨0,idx,none⟩=some (.int .u8 k)) :
  Calls Tryz.prog 77 #[.int .u64 x] w fun e w'=>e=.returned (.int .i64 k)∧w'=w:=by
 go_enter Tryz.func77,Tryz.ntmps77
 go_wp2_with (simp only [key])
 go_ret
 exact ⟨rfl,rfl⟩
theorem tz_key (x a:Nat) (hx:x<18446744073709551616) (hx0:x≠0) (hlow:x &&& (18446744073709551616 - x)=a) :
  IntKind.u64.wrap (bits BinOp.and IntKind.u64 (x:Int) (IntKind.u64.wrap (-(x:Int)))*285870213051353865) / 288230376151711744=((a*285870213051353865 % 18446744073709551616 / 288230376151711744:Nat):Int):=by
 have e1:IntKind.u64.wrap (-(x:Int))=((18446744073709551616 - x:Nat):Int):=by rw [IntKind.wrap_u64];omega
 rw [e1,bits_and_u64_nat x _ hx (by omega),hlow,IntKind.wrap_u64]
 omega
theorem tz_any (x:Nat) (hx:x<18446744073709551616) (hx0:x≠0) (w:World) (hT:TabZ w):Calls Tryz.prog 77 #[.int .u64 x] w fun e w'=>(∃ k:Nat,k<64∧e=.returned (.int .i64 k))∧w'=w:=by
 obtain ⟨hlow,hk⟩:=Lib.lowest_bit 64 x hx0 hx
 obtain ⟨hi,htab⟩:=Lib.deBruijn64_at _ hk
 have hcell:=hT _ hi
 rw [htab] at hcell
 exact (tz_core x _ _ w (by simp;omega) (tz_key x _ hx hx0 hlow) hi hk hcell).mono fun e w' h=>⟨⟨_,hk,h.1⟩,h.2⟩
def lkW (s r:Int):Int:=bits BinOp.andNot IntKind.u64 s r
def lackB (r s:List Int):Bool:=(List.range s.length).any fun k=>decide (lkW (s.getD k 0) (r.getD k 0)≠0)
theorem lkW_rng (s r:Int):0≤lkW s r∧lkW s r<18446744073709551616:=by
 unfold lkW
 have:∃ z,bits BinOp.andNot IntKind.u64 s r=IntKind.u64.wrap z:=⟨_,rfl⟩
 obtain ⟨z,hz⟩:=this
 rw [hz,IntKind.wrap_u64]
 omega
theorem lack_any (r s:Rw) (w:World) (hr:RwAt w r) (hs:RwAt w s) (hl:r.zs.length=s.zs.length) (hb:s.zs.length≤100) (hT:TabZ w):Calls Tryz.prog 43 #[r.v,s.v] w fun e w'=>(∃ p:Int,e=.returned (.tuple #[.int .i64 p,.bool (lackB r.zs s.zs)]))∧Below w.heap.size w w':=by
 have HB:Hid (Below w.heap.size w ((w.alloc r.o).alloc s.o)):=jH (belA (belA bR))
 have HA:=jH ((At.new w r.o).alloc s.o)
 have HC:=jH (at_snd w r.o s.o)
 have HR:=jH (hr.bel HB.out)
 have HS:=jH (hs.bel HB.out)
 have HT:=jH (hT.bel HB.out)
 obtain ⟨x0,x1⟩:=HA.out.rwo
 obtain ⟨y0,y1⟩:=HC.out.rwo
 have HL:=jH hl
 have n1:(s.zs.length:Int)≤100:=by omega
 obtain ⟨rx,ra,rc,rz⟩:=r
 obtain ⟨sx,sa,sc,sz⟩:=s
 simp only at hl hb x0 x1 y0 y1 n1
 clear hr hs hT hl hb
 go_enter Tryz.func43,Tryz.ntmps43
 go_wp2_with fail
 go_loopw [12] (fun v V=>∃ i:Nat,i≤sz.length∧v=.int .i64 (i:Int)∧(∀ j,j<i→lkW (sz.getD j 0) (rz.getD j 0)=0)∧Below ((w.alloc (Rw.o ⟨rx,ra,rc,rz⟩)).alloc (Rw.o ⟨sx,sa,sc,sz⟩)).heap.size ((w.alloc (Rw.o ⟨rx,ra,rc,rz⟩)).alloc (Rw.o ⟨sx,sa,sc,sz⟩)) V) (fun v _=>sz.length - (intOf v).toNat)
 case atStart=>exact ⟨0,Nat.zero_le _,rfl,fun j h=>by omega,Below.refl _ _⟩
 case round =>
  obtain ⟨i,hi,rfl,h1,hB⟩:=hrel
  have HI:=jH h1
  have HBV:=jH hB
  obtain ⟨x0,x1⟩:=(HA.out.below hB).rwo
  obtain ⟨y0,y1⟩:=(HC.out.below hB).rwo
  simp only at x0 x1 y0 y1
  clear h1 hB
  by_cases hlt:i<sz.length
  ·obtain ⟨p,hp⟩:∃ p,sz[i]?=some p:=⟨_,List.getElem?_eq_getElem hlt⟩
   obtain ⟨q,hq⟩:∃ p,rz[i]?=some p:=⟨_,List.getElem?_eq_getElem (by have:=HL.out;omega)⟩
   obtain ⟨g,off,ea,hg,hc⟩:=(HS.out.bel HBV.out).c (by intro hh;simp only at hh;simp [hh] at hp)
   obtain ⟨g2,off2,ea2,hg2,hc2⟩:=(HR.out.bel HBV.out).c (by intro hh;simp only at hh;simp [hh] at hq)
   simp only at ea ea2
   subst ea
   subst ea2
   have c0:=hc i p hp
   have d0:=hc2 i q hq
   obtain ⟨u,hu⟩:∃ u:Nat,lkW p q=(u:Int):=⟨(lkW p q).toNat,by have:=lkW_rng p q;omega⟩
   have hu2:u<18446744073709551616:=by have:=lkW_rng p q;omega
   have e0:bits BinOp.andNot IntKind.u64 p q=(u:Int):=hu
   have i0:(0:Int)≤(i:Int):=by omega
   have i1:(i:Int)<(sz.length:Int):=by omega
   have i2:(i:Int)<(rz.length:Int):=by have:=HL.out;omega
   have HLT:=jH hlt
   have HU:=jH hu
   have HP:=jH hp
   have HQ:=jH hq
   by_cases hu0:u=0
   ·subst hu0
    have e1:bits BinOp.andNot IntKind.u64 p q=0:=by rw [e0];rfl
    clear hlt hp hq hi hc hc2 hu e0 hu2
    go_wp2_with fail
    refine ⟨⟨i+1,HLT.out,rfl,fun j hj=>?_,HBV.out⟩,by have:=HLT.out;show sz.length - ((i:Int)+1).toNat<sz.length - (i:Int).toNat;omega⟩
    rcases Nat.lt_or_ge j i with h1|h1
    ·exact HI.out j h1
    ·obtain rfl:j=i:=by omega
     have a1:=HP.out
     have a2:=HQ.out
     simp only [List.getD_eq_getElem?_getD,a1,a2,Option.getD_some]
     exact HU.out
   ·have C:=jH (tz_any u hu2 hu0 _ (HT.out.bel HBV.out))
    have e1:((u:Int) != 0)=true:=by simp;omega
    have HLB:Hid (lackB rz sz=true):=jH (List.any_eq_true.2 ⟨i,List.mem_range.2 hlt,by
     simp only [List.getD_eq_getElem?_getD,hp,hq,Option.getD_some,decide_eq_true_eq]
     rw [hu]
     omega⟩)
    clear hlt hp hq hi hc hc2 hu hu2 hu0
    go_wp2_with (go_at_call 77;refine C.out.mono ?_;rintro e w9 ⟨⟨k,hk,rfl⟩,hw⟩;subst hw)
    go_ret2
    rw [HLB.out]
    exact ⟨⟨_,rfl⟩,below2 HBV.out⟩
  ·obtain rfl:i=sz.length:=by omega
   have lt:¬ (sz.length:Int)<(sz.length:Int):=by omega
   have HLB:Hid (lackB rz sz=false):=jH (by
    unfold lackB
    rw [List.any_eq_false]
    intro k hk
    rw [List.mem_range] at hk
    rw [HI.out k hk]
    simp)
   clear hlt hi
   go_wp2_with fail
   go_ret2
   rw [HLB.out]
   exact ⟨⟨0,rfl⟩,below2 HBV.out⟩
theorem good_each {R:List Rw} (h:goodR R=true) {r:Rw} (hr:r∈R):r.x=fstX R∧mayR r.x r.zs=true:=by
 unfold goodR at h
 simp only [Bool.not_eq_true',List.any_eq_false] at h
 have:=h r hr
 simpa [badR] using this
theorem mayR_len {x:Int} {zs:List Int} (h:mayR x zs=true):0≤x∧x≤1032∧(zs.length:Int)=(x+63) / 64:=by
 simp [mayR] at h
 exact ⟨h.1.1.1,h.1.1.2,h.1.2⟩
theorem good_len {R:List Rw} (h:goodR R=true) {r s:Rw} (hr:r∈R) (hs:s∈R):r.zs.length=s.zs.length∧s.zs.length≤100:=by
 obtain ⟨a1,a2⟩:=good_each h hr
 obtain ⟨b1,b2⟩:=good_each h hs
 have c1:=mayR_len a2
 have c2:=mayR_len b2
 rw [a1] at c1
 rw [b1] at c2
 omega
def rowZ (R:List Rw) (x:Int):List Int:=match R[x.toNat]? with|some r=>r.zs|none=>[]
def clB (l:List (Int × Int)) (R:List Rw):Bool:=l.all fun p=>!lackB (rowZ R p.1) (rowZ R p.2)
theorem in_of {l:List (Int × Int)} {n:Int} (h:l.any (outB n)=false) {p:Int × Int} (hp:p∈l):(0≤p.1∧p.1<n)∧0≤p.2∧p.2<n:=by
 rw [List.any_eq_false] at h
 have:=h p hp
 simpa [outB,blwB] using this
theorem clB_no {l:List (Int × Int)} {R:List Rw} {i:Nat} {x y:Int} {rx ry:Rw} (hp:l[i]?=some (x,y)) (hx:R[x.toNat]?=some rx) (hy:R[y.toNat]?=some ry) (h:lackB rx.zs ry.zs=true):clB l R=false:=by
 unfold clB
 rw [List.all_eq_false]
 refine ⟨_,List.mem_of_getElem? hp,?_⟩
 simp [rowZ,hx,hy,h]
theorem Closed_bad1 (w:World) (a:Option Addr) (m cap:Nat) (b:Option Addr) (n cap2:Nat) (R:List Rw) (hR:RsR w b n cap2 R) (hg:goodR R=false):Calls Tryz.prog 17 #[.slice a m cap,.slice b n cap2] w fun e w'=>e=.returned (.tuple #[.int .i64 0,.int .i64 0,.bool false,.int .i64 2])∧Below w.heap.size w w':=by
 have C1:=jH (areRows_any b n cap2 R w hR)
 rw [hg] at C1
 clear hR hg
 go_enter Tryz.func17,Tryz.ntmps17
 go_wp2_with (go_at_call 41;refine C1.out.mono ?_;rintro e w1 ⟨rfl,hb⟩;have HB1:=jH hb;clear hb)
 (try simp only [Exit.inBlock,Exit.then])
 refine bodyPost_ret (results_tmp4 rfl _ _ _) rfl ?_
 exact ⟨rfl,HB1.out⟩
theorem Closed_bad2 (w:World) (a:Option Addr) (m cap:Nat) (l:List (Int × Int)) (hP:PrR w a m cap l) (b:Option Addr) (n cap2:Nat) (R:List Rw) (hR:RsR w b n cap2 R) (hg:goodR R=true) (ho:l.any (outB n)=true):Calls Tryz.prog 17 #[.slice a m cap,.slice b n cap2] w fun e w'=>e=.returned (.tuple #[.int .i64 0,.int .i64 0,.bool false,.int .i64 2])∧Below w.heap.size w w':=by
 have C1:=jH (areRows_any b n cap2 R w hR)
 have C2:=jH (fun (V:World) (hV:Below w.heap.size w V)=>areBelow_any n a m cap l V (hP.bel hV))
 rw [hg] at C1
 rw [ho] at C2
 clear hR hg hP ho
 go_enter Tryz.func17,Tryz.ntmps17
 go_wp2_with (first
  | (go_at_call 41;refine C1.out.mono ?_;rintro e w1 ⟨rfl,hb⟩;have HB1:=jH hb;clear hb)
  | (go_at_call 42;refine (C2.out _ HB1.out).mono ?_;rintro e w2 ⟨rfl,hb⟩;have HB2:=jH (jB HB1.out hb);clear hb))
 (try simp only [Exit.inBlock,Exit.then])
 refine bodyPost_ret (results_tmp4 rfl _ _ _) rfl ?_
 exact ⟨rfl,HB2.out⟩
theorem Closed_ok (w:World) (a:Option Addr) (m cap:Nat) (l:List (Int × Int)) (hP:PrR w a m cap l) (b:Option Addr) (n cap2:Nat) (R:List Rw) (hR:RsR w b n cap2 R) (hT:TabZ w) (hg:goodR R=true) (ho:l.any (outB n)=false):Calls Tryz.prog 17 #[.slice a m cap,.slice b n cap2] w fun e w'=>(∃ p q:Int,e=.returned (.tuple #[.int .i64 p,.int .i64 q,.bool (clB l R),.int .i64 0]))∧Below w.heap.size w w':=by
 have C1:=jH (areRows_any b n cap2 R w hR)
 have C2:=jH (fun (V:World) (hV:Below w.heap.size w V)=>areBelow_any n a m cap l V (hP.bel hV))
 have HO:=jH ho
 have HG:=jH hg
 rw [hg] at C1
 rw [ho] at C2
 have HP:=jH hP
 have HR:=jH hR
 have HT:=jH hT
 have HML:=jH hP.len
 have m9:(m:Int)≤9223372036854775807:=by have:=hP.big;unfold maxLen at this;omega
 clear hR hg hP ho hT
 go_enter Tryz.func17,Tryz.ntmps17
 go_wp2_with (first
  | (go_at_call 41;refine C1.out.mono ?_;rintro e w1 ⟨rfl,hb⟩;have HB1:=jH hb;clear hb)
  | (go_at_call 42;refine (C2.out _ HB1.out).mono ?_;rintro e w2 ⟨rfl,hb⟩;have HB2:=jH (jB HB1.out hb);clear hb))
 go_loopw [24] (fun v V=>∃ i:Nat,i≤m∧v=.int .i64 (i:Int)∧(∀ (j:Nat) (q:Int × Int),j<i→l[j]?=some q→∃ rx ry,R[q.1.toNat]?=some rx∧R[q.2.toNat]?=some ry∧lackB rx.zs ry.zs=false)∧Below w.heap.size w V) (fun v _=>m - (intOf v).toNat)
 case atStart=>exact ⟨0,Nat.zero_le _,rfl,fun j q h=>by omega,HB2.out⟩
 case round =>
  rename_i wr
  obtain ⟨i,hi,rfl,h1,hB⟩:=hrel
  have HI:=jH h1
  have HB:=jH hB
  clear h1 hB
  by_cases hlt:i<m
  ·obtain ⟨⟨x,y⟩,hp⟩:∃ p,l[i]?=some p:=⟨_,List.getElem?_eq_getElem (by have:=HML.out;omega)⟩
   obtain ⟨⟨hx0,hx1⟩,hy0,hy1⟩:=in_of HO.out (List.mem_of_getElem? hp)
   simp only at hx0 hx1 hy0 hy1
   obtain ⟨xn,rfl⟩:∃ k:Nat,x=(k:Int):=⟨x.toNat,by omega⟩
   obtain ⟨yn,rfl⟩:∃ k:Nat,y=(k:Int):=⟨y.toNat,by omega⟩
   obtain ⟨rx,hrx⟩:∃ p,R[xn]?=some p:=⟨_,List.getElem?_eq_getElem (by have:=HR.out.len;omega)⟩
   obtain ⟨ry,hry⟩:∃ p,R[yn]?=some p:=⟨_,List.getElem?_eq_getElem (by have:=HR.out.len;omega)⟩
   have hx:R[(xn:Int).toNat]?=some rx:=by simpa using hrx
   have hy:R[(yn:Int).toNat]?=some ry:=by simpa using hry
   have hne:R≠[]:=by intro hh;simp [hh] at hrx
   obtain ⟨g,o,eb,-,-⟩:=HR.out.cells hne
   subst eb
   obtain ⟨ga,off,ea,hg,c0,c1⟩:=(HP.out.bel HB.out).nth hp
   have ea2:a=some ⟨ga,off,none⟩:=ea
   subst ea2
   simp only at c0 c1
   obtain ⟨gl1,gl2⟩:=good_len HG.out (List.mem_of_getElem? hrx) (List.mem_of_getElem? hry)
   obtain ⟨lb,hlb⟩:∃ z,z=lackB rx.zs ry.zs:=⟨_,rfl⟩
   have CL:=jH (fun (V:World) (hV:Below w.heap.size w V)=>lack_any rx ry V ((HR.out.at_ _ (List.mem_of_getElem? hrx)).bel hV) ((HR.out.at_ _ (List.mem_of_getElem? hry)).bel hV) gl1 gl2 (HT.out.bel hV))
   rw [← hlb] at CL
   have HLB:=jH hlb
   have HP1:=jH hp
   have HLT:=jH hlt
   have i0:(0:Int)≤(i:Int):=by omega
   have i1:(i:Int)<(m:Int):=by omega
   clear ea hlt hi gl1 gl2 hlb hg
   go_upto_region 6 with fail
   clear c0 c1
   refine beginH (S:=fun V=>At V wr.heap.size (.cells #[.int .i64 (xn:Int),.int .i64 (yn:Int)] 36)∧RsR V (some ⟨g,o,none⟩) n cap2 R) (fun _ _ _ _ _ h=>h) (by kernel_rfl) ⟨(At.new wr _).drew,(HR.out.bel (belA HB.out)).bel (belN bR 1)⟩ (fun hq hH=>?_)
   refine tz 0 30 (.slice (some ⟨g,o,none⟩) n cap2) hq rfl rfl hH ?_
   simp only [pb,pc]
   refine tz 1 31 (.pointer (some ⟨wr.heap.size,0,none⟩)) hq rfl rfl hH ?_
   simp only [pb,pc]
   refine tq 2 32 (.int .i64 (xn:Int)) hq rfl rfl (fun W hSw=>by (have hA:=hSw.1;unfold At at hA;have c0:W.cell? ⟨wr.heap.size,0,none⟩=some (.int .i64 (xn:Int)):=(by simp [World.cell?,hA]);have c1:W.cell? ⟨wr.heap.size,1,none⟩=some (.int .i64 (yn:Int)):=(by simp [World.cell?,hA]);go_simp;try rfl)) hH ?_
   simp only [pb,pc]
   refine tz 3 33 (.pointer (some ⟨g,o+xn*2,none⟩)) hq rfl rfl hH ?_
   simp only [pb,pc]
   refine tq 4 34 (rx.v) hq rfl rfl (fun W hSw=>by (obtain ⟨gg,og,eg,hgg,hcc⟩:=hSw.2.cells hne;cases eg;obtain ⟨z0,z1⟩:=hcc xn rx hrx;go_simp;try rfl)) hH ?_
   simp only [pb,pc]
   refine tz 5 35 (.slice (some ⟨g,o,none⟩) n cap2) hq rfl rfl hH ?_
   simp only [pb,pc]
   refine tz 6 36 (.pointer (some ⟨wr.heap.size,1,none⟩)) hq rfl rfl hH ?_
   simp only [pb,pc]
   refine tq 7 37 (.int .i64 (yn:Int)) hq rfl rfl (fun W hSw=>by (have hA:=hSw.1;unfold At at hA;have c0:W.cell? ⟨wr.heap.size,0,none⟩=some (.int .i64 (xn:Int)):=(by simp [World.cell?,hA]);have c1:W.cell? ⟨wr.heap.size,1,none⟩=some (.int .i64 (yn:Int)):=(by simp [World.cell?,hA]);go_simp;try rfl)) hH ?_
   simp only [pb,pc]
   refine tz 8 38 (.pointer (some ⟨g,o+yn*2,none⟩)) hq rfl rfl hH ?_
   simp only [pb,pc]
   refine tq 9 39 (ry.v) hq rfl rfl (fun W hSw=>by (obtain ⟨gg,og,eg,hgg,hcc⟩:=hSw.2.cells hne;cases eg;obtain ⟨z0,z1⟩:=hcc yn ry hry;go_simp;try rfl)) hH ?_
   simp only [pb,pc]
   refine aR1 10 rfl (fun K hK=>?_)
   have C3:=jH (CL.out _ (belN (belA HB.out (o:=.cells #[.int .i64 (xn:Int),.int .i64 (yn:Int)] 36)) 1))
   go_simp
   refine C3.out.mono ?_
   rintro e w4 ⟨⟨p,rfl⟩,hb⟩
   have HB4:=jH (jB (belN (belA HB.out) 1) hb)
   have hH2:At w4 wr.heap.size (.cells #[.int .i64 (xn:Int),.int .i64 (yn:Int)] 36)∧RsR w4 (some ⟨g,o,none⟩) n cap2 R:=⟨hH.1.below hb,hH.2.bel hb⟩
   clear hb C3
   go_wp2_with fail
   refine hK.out _ _ hH2 (fun hH=>?_)
   clear hK K hH2
   try simp only [Act.put,List.setIfInBounds_toArray,pb,pc]
   refine tz 11 29 (.tuple #[.int .i64 p,.bool lb]) hq rfl rfl hH ?_
   simp only [pb,pc]
   refine tz 12 41 (.int .i64 p) hq rfl rfl hH ?_
   simp only [pb,pc]
   refine tz 13 42 (.bool lb) hq rfl rfl hH ?_
   simp only [pb,pc]
   refine tz 14 10 (.int .i64 p) hq rfl rfl hH ?_
   simp only [pb,pc]
   refine tz 15 11 (.bool lb) hq rfl rfl hH ?_
   simp only [pb,pc]
   refine wpAnyH_done (by kernel_rfl) ?_ _
   clear hH hq
   cases lb with
   | true =>
    go_wp2_with fail
    (try simp only [Exit.inBlock,Exit.then])
    refine bodyPost_ret (results_tmp4 rfl _ _ _) rfl ?_
    have hcl:clB l R=false:=clB_no hp hx hy (HLB.out ▸ rfl)
    rw [hcl]
    exact ⟨⟨_,_,rfl⟩,HB4.out⟩
   | false =>
    go_wp2_with fail
    refine ⟨⟨i+1,HLT.out,rfl,fun j q hj hq=>?_,HB4.out⟩,by have:=HLT.out;show m - ((i:Int)+1).toNat<m - (i:Int).toNat;omega⟩
    rcases Nat.lt_or_ge j i with h1|h1
    ·exact HI.out j q h1 hq
    ·obtain rfl:j=i:=by omega
     rw [HP1.out] at hq
     cases hq
     exact ⟨rx,ry,hrx,hry,HLB.out.symm⟩
  ·obtain rfl:i=m:=by omega
   have lt:¬ (i:Int)<(i:Int):=by omega
   clear hlt hi
   go_wp2_with fail
   (try simp only [Exit.inBlock,Exit.then])
   refine bodyPost_ret (results_tmp4 rfl _ _ _) rfl ?_
   have hcl:clB l R=true:=by
    unfold clB
    rw [List.all_eq_true]
    intro p hp
    obtain ⟨j,hj⟩:=List.getElem?_of_mem hp
    obtain ⟨rx,ry,h1,h2,h3⟩:=HI.out j p (by have:=(List.getElem?_eq_some_iff.1 hj).1;have:=HML.out;omega) hj
    simp [rowZ,h1,h2,h3]
   rw [hcl]
   exact ⟨⟨0,0,rfl⟩,HB.out⟩
theorem lkW_bv (s r:Int):lkW s r=((BitVec.ofInt 64 s &&& ~~~ BitVec.ofInt 64 r).toNat:Int):=by
 have h:(BitVec.ofInt 64 s &&& ~~~ BitVec.ofInt 64 r).toNat<2 ^ 64:=BitVec.isLt _
 show IntKind.u64.wrap ((BitVec.ofInt 64 s &&& ~~~ BitVec.ofInt 64 r).toNat:Int)=_
 rw [IntKind.wrap_u64]
 omega
theorem lkW_zero (s r:Int):lkW s r=0↔BitVec.ofInt 64 s &&& ~~~ BitVec.ofInt 64 r=0#64:=by
 rw [lkW_bv]
 constructor
 ·intro h
  apply BitVec.eq_of_toNat_eq
  simpa using h
 ·intro h
  rw [h]
  rfl
theorem lkW_self (s:Int):lkW s s=0:=by
 rw [lkW_zero]
 exact BitVec.and_not_self _
theorem lkW_trans {t s r:Int} (h1:lkW s r=0) (h2:lkW t s=0):lkW t r=0:=by
 rw [lkW_zero] at *
 generalize BitVec.ofInt 64 t=T at *
 generalize BitVec.ofInt 64 s=S at *
 generalize BitVec.ofInt 64 r=R at *
 ext i hi
 have a1:=congrArg (fun b:BitVec 64=>b[i]) h1
 have a2:=congrArg (fun b:BitVec 64=>b[i]) h2
 simp at a1 a2 ⊢
 cases hT:T[i] <;> cases hS:S[i] <;> cases hR:R[i] <;> simp_all
theorem lackB_iff {r s:List Int}:lackB r s=false↔∀ k,k<s.length→lkW (s.getD k 0) (r.getD k 0)=0:=by
 unfold lackB
 rw [List.any_eq_false]
 constructor
 ·intro h k hk
  have:=h k (List.mem_range.2 hk)
  simpa only [decide_eq_true_eq,ne_eq,Decidable.not_not] using this
 ·intro h k hk
  rw [h k (List.mem_range.1 hk)]
  simp
theorem lackB_self (r:List Int):lackB r r=false:=lackB_iff.2 fun k _=>lkW_self _
theorem lackB_trans {r s t:List Int} (hl:t.length≤s.length) (h1:lackB r s=false) (h2:lackB s t=false):lackB r t=false :=
 lackB_iff.2 fun k hk=>lkW_trans (lackB_iff.1 h1 k (by omega)) (lackB_iff.1 h2 k hk)
theorem rowZ_len {R:List Rw} (hg:goodR R=true) {x y:Int} (hx:0≤x∧x<R.length) (hy:0≤y∧y<R.length):(rowZ R x).length=(rowZ R y).length:=by
 obtain ⟨r,hr⟩:∃ r,R[x.toNat]?=some r:=⟨_,List.getElem?_eq_getElem (by omega)⟩
 obtain ⟨s,hs⟩:∃ r,R[y.toNat]?=some r:=⟨_,List.getElem?_eq_getElem (by omega)⟩
 simp only [rowZ,hr,hs]
 exact (good_len hg (List.mem_of_getElem? hr) (List.mem_of_getElem? hs)).1
theorem closed_pass {l:List (Int × Int)} {R:List Rw} (hg:goodR R=true) (ho:l.any (outB R.length)=false) (hc:clB l R=true) {f:Int} (hf:0≤f∧f<R.length) {x:Int} (h:Rch l f x):(0≤x∧x<R.length)∧lackB (rowZ R x) (rowZ R f)=false:=by
 induction h with
 | refl=>exact ⟨hf,lackB_self _⟩
 | @step x y hx hy ih =>
  obtain ⟨hb,hl⟩:=ih
  obtain ⟨h1,h2⟩:=in_of ho hy
  simp only at h1 h2
  refine ⟨h1,?_⟩
  unfold clB at hc
  rw [List.all_eq_true] at hc
  have:=hc _ hy
  simp only [Bool.not_eq_true'] at this
  exact lackB_trans (by rw [rowZ_len hg hf hb];exact Nat.le_refl _) this hl
end Go.Proofs.YtmjenlogbkbgnaaGreatDoor
