import Derived.Test.YtmjenlogbkbgnaaGreatDoorC02
import Derived.Test.YtmjenlogbkbgnaaGreatDoorC06
import Derived.Shelf.Spec.TrailingZeros
import Derived.Lib.TrailingZeros
import Derived.Lib.LaidTab
namespace Go.Proofs.YtmjenlogbkbgnaaGreatDoor
open Go.RowKit Go.Shelf
set_option linter.unusedVariables false
set_option linter.unusedSimpArgs false
set_option maxRecDepth 100000
set_option maxHeartbeats 4000000
def WCells (w:World) (a:Option Addr) (zs:List Int):Prop :=
 zs≠[]→∃ g off,a=some ⟨g,off,none⟩∧g<w.heap.size∧∀ i z,zs[i]?=some z→w.cell? ⟨g,off+i,none⟩=some (.int .u64 z)
theorem WCells.bel {w w':World} {a:Option Addr} {zs:List Int} (h:WCells w a zs) (k:Below w.heap.size w w'):WCells w' a zs:=fun hz=>by
 obtain ⟨g,off,h1,h2,h3⟩:=h hz
 exact ⟨g,off,h1,Nat.lt_of_lt_of_le h2 k.size,fun i z hi=>(k.cell (p:=⟨g,off+i,none⟩) h2).trans (h3 i z hi)⟩
structure Rw where
 x:Int
 a:Option Addr
 cap:Nat
 zs:List Int
abbrev Rw.v (r:Rw):Value:=.agg #[.int .i64 r.x,.slice r.a r.zs.length r.cap]
abbrev Rw.o (r:Rw):Obj:=.cells #[.int .i64 r.x,.slice r.a r.zs.length r.cap] 48
structure RwAt (W:World) (r:Rw):Prop where
 x0:-9223372036854775808≤r.x
 x1:r.x≤9223372036854775807
 big:r.zs.length≤maxLen
 wd:∀ z∈r.zs,0≤z∧z<18446744073709551616
 c:WCells W r.a r.zs
theorem RwAt.bel {W W':World} {r:Rw} (h:RwAt W r) (k:Below W.heap.size W W'):RwAt W' r:=⟨h.x0,h.x1,h.big,h.wd,h.c.bel k⟩
def mayR (x:Int) (zs:List Int):Bool :=
 decide (0≤x) && decide (x≤1032) && decide ((zs.length:Int)=(x+63) / 64) && (decide (x % 64=0) || zs.getD (zs.length - 1) 0 / 2 ^ (x % 64).toNat == 0)
theorem At.rwo {W:World} {b:Nat} {r:Rw} (h:At W b r.o):W.cell? ⟨b,0,none⟩=some (.int .i64 r.x)∧W.cell? ⟨b,1,none⟩=some (.slice r.a r.zs.length r.cap):=by
 unfold At at h
 refine ⟨?_,?_⟩ <;> simp [World.cell?,h]
theorem isRow_width (r:Rw) (w:World) (h:RwAt w r) (hx:¬ (0≤r.x∧r.x≤1032)):Calls Tryz.prog 74 #[r.v] w fun e w'=>e=.returned (.bool false)∧Below w.heap.size w w':=by
 have HA:=jH (At.new w r.o)
 obtain ⟨c0,c1⟩:=HA.out.rwo
 obtain ⟨x,a,cap,zs⟩:=r
 simp only at hx c0 c1
 clear h
 rcases Int.lt_or_le x 0 with h0|h0
 ·clear hx
  go_enter Tryz.func74,Tryz.ntmps74
  go_wp2_with fail
  go_ret
  exact ⟨rfl,belA bR⟩
 ·have h1:1032<x:=by omega
  have h2:¬ x<0:=by omega
  clear hx h0
  go_enter Tryz.func74,Tryz.ntmps74
  go_wp2_with fail
  go_ret
  exact ⟨rfl,belA bR⟩
theorem isRow_many (r:Rw) (w:World) (h:RwAt w r) (h0:0≤r.x) (h1:r.x≤1032) (hn:(r.zs.length:Int)≠(r.x+63) / 64):Calls Tryz.prog 74 #[r.v] w fun e w'=>e=.returned (.bool false)∧Below w.heap.size w w':=by
 have HA:=jH (At.new w r.o)
 obtain ⟨c0,c1⟩:=HA.out.rwo
 have hb:=h.big
 obtain ⟨x,a,cap,zs⟩:=r
 simp only at h0 h1 c0 c1 hn hb
 have h2:¬ x<0:=by omega
 have h3:¬ 1032<x:=by omega
 have hq:(x+64 - 1).tdiv 64=(x+63) / 64:=by rw [Int.tdiv_eq_ediv_of_nonneg (by omega)];congr 1;omega
 have hne:((zs.length:Int) != (x+63) / 64)=true:=by simpa using hn
 unfold maxLen at hb
 clear h hn
 go_enter Tryz.func74,Tryz.ntmps74
 go_wp2_with fail
 go_ret
 exact ⟨rfl,belA bR⟩
theorem isRow_full (r:Rw) (w:World) (h:RwAt w r) (h0:0≤r.x) (h1:r.x≤1032) (hn:(r.zs.length:Int)=(r.x+63) / 64) (hm:r.x % 64=0):Calls Tryz.prog 74 #[r.v] w fun e w'=>e=.returned (.bool true)∧Below w.heap.size w w':=by
 have HA:=jH (At.new w r.o)
 obtain ⟨c0,c1⟩:=HA.out.rwo
 obtain ⟨x,a,cap,zs⟩:=r
 simp only at h0 h1 c0 c1 hn hm
 have h2:¬ x<0:=by omega
 have h3:¬ 1032<x:=by omega
 have hq:(x+64 - 1).tdiv 64=(x+63) / 64:=by rw [Int.tdiv_eq_ediv_of_nonneg (by omega)];congr 1;omega
 have hr:x.tmod 64=0:=by rw [Int.tmod_eq_emod_of_nonneg (by omega)];exact hm
 have hne:((zs.length:Int) != (x+63) / 64)=false:=by simpa using hn
 have hb:zs.length≤100:=by omega
 clear h hn
 go_enter Tryz.func74,Tryz.ntmps74
 go_wp2_with fail
 go_ret
 exact ⟨rfl,belA bR⟩
theorem isRow_part (r:Rw) (w:World) (h:RwAt w r) (h0:0≤r.x) (h1:r.x≤1032) (hn:(r.zs.length:Int)=(r.x+63) / 64) (hm:¬ r.x % 64=0):Calls Tryz.prog 74 #[r.v] w fun e w'=>e=.returned (.bool (r.zs.getD (r.zs.length - 1) 0 / 2 ^ (r.x % 64).toNat == 0))∧Below w.heap.size w w':=by
 have HA:=jH (At.new w r.o)
 obtain ⟨c0,c1⟩:=HA.out.rwo
 have hc:=h.c.bel (belA (Below.refl w.heap.size w) (o:=r.o))
 have hw:=h.wd
 obtain ⟨x,a,cap,zs⟩:=r
 simp only at h0 h1 c0 c1 hn hm hc hw
 have hb:zs.length≤100:=by omega
 have hl1:1≤zs.length:=by omega
 obtain ⟨g,off,rfl,hg,hcc⟩:=hc (by intro hh;simp [hh] at hl1)
 obtain ⟨z,hz⟩:∃ z,zs[zs.length - 1]?=some z:=⟨_,List.getElem?_eq_getElem (by omega)⟩
 have cz:=hcc _ _ hz
 have hzd:zs.getD (zs.length - 1) 0=z:=by simp [hz]
 obtain ⟨hz0,hz1⟩:=hw _ (List.mem_of_getElem? hz)
 rw [hzd]
 have hto:((zs.length:Int) - 1).toNat=zs.length - 1:=by omega
 have i0:(0:Int)≤(zs.length:Int) - 1:=by omega
 have i1:(zs.length:Int) - 1<(zs.length:Int):=by omega
 have h2:¬ x<0:=by omega
 have h3:¬ 1032<x:=by omega
 have hq:(x+64 - 1).tdiv 64=(x+63) / 64:=by rw [Int.tdiv_eq_ediv_of_nonneg (by omega)];congr 1;omega
 obtain ⟨u,hu⟩:∃ u,u=x % 64:=⟨_,rfl⟩
 have hr:x.tmod 64=u:=by rw [Int.tmod_eq_emod_of_nonneg (by omega),hu]
 have hu0:(u == 0)=false:=by rw [hu];simpa using hm
 have u0:0≤u:=by omega
 have u1:u<64:=by omega
 have hne:((zs.length:Int) != (x+63) / 64)=false:=by simpa using hn
 rw [← hu]
 clear h hn hw hcc hz hzd hu hm
 go_enter Tryz.func74,Tryz.ntmps74
 go_wp2_with fail
 go_ret
 exact ⟨rfl,belA bR⟩
theorem isRow_any (r:Rw) (w:World) (h:RwAt w r):Calls Tryz.prog 74 #[r.v] w fun e w'=>e=.returned (.bool (mayR r.x r.zs))∧Below w.heap.size w w':=by
 by_cases h0:0≤r.x∧r.x≤1032
 ·obtain ⟨h0,h1⟩:=h0
  by_cases hn:(r.zs.length:Int)=(r.x+63) / 64
  ·by_cases hm:r.x % 64=0
   ·refine (isRow_full r w h h0 h1 hn hm).mono fun e w' h=>⟨?_,h.2⟩
    rw [h.1];simp [mayR,h0,h1,hn,hm]
   ·refine (isRow_part r w h h0 h1 hn hm).mono fun e w' h=>⟨?_,h.2⟩
    rw [h.1];simp [mayR,h0,h1,hn,hm]
  ·refine (isRow_many r w h h0 h1 hn).mono fun e w' h=>⟨?_,h.2⟩
   rw [h.1];simp [mayR,hn]
 ·refine (isRow_width r w h h0).mono fun e w' h'=>⟨?_,h'.2⟩
  rw [h'.1]
  have:(decide (0≤r.x) && decide (r.x≤1032))=false:=by
   simp only [Bool.and_eq_false_iff,decide_eq_false_iff_not];omega
  simp only [mayR,this,Bool.false_and]
structure RsR (W:World) (a:Option Addr) (n cap:Nat) (L:List Rw):Prop where
 len:n=L.length
 big:n≤maxLen
 cells:L≠[]→∃ g off,a=some ⟨g,off,none⟩∧g<W.heap.size∧∀ i r,L[i]?=some r→W.cell? ⟨g,off+i*2,none⟩=some (.int .i64 r.x)∧W.cell? ⟨g,off+i*2+1,none⟩=some (.slice r.a r.zs.length r.cap)
 at_:∀ r∈L,RwAt W r
theorem RsR.bel {W W':World} {a:Option Addr} {n cap:Nat} {L:List Rw} (h:RsR W a n cap L) (k:Below W.heap.size W W'):RsR W' a n cap L:=⟨h.len,h.big,fun hl=>by
 obtain ⟨g,off,h1,h2,h3⟩:=h.cells hl
 exact ⟨g,off,h1,Nat.lt_of_lt_of_le h2 k.size,fun i p hp=>⟨(k.cell (p:=⟨g,off+i*2,none⟩) h2).trans (h3 i p hp).1,(k.cell (p:=⟨g,off+i*2+1,none⟩) h2).trans (h3 i p hp).2⟩⟩,fun r hr=>(h.at_ r hr).bel k⟩
def badR (x:Int) (r:Rw):Bool:=decide (r.x≠x) || !mayR r.x r.zs
theorem rows1_wide (r r0:Rw) (b:Nat) (a:Option Addr) (n cap:Nat) (L:List Rw) (w:World) (hA:At w b (One (.slice a n cap) 44)) (hL:RsR w a n cap L) (h0:L[0]?=some r0) (hx:r.x≠r0.x):Calls Tryz.prog 73 #[r.v,.pointer (some ⟨b,0,none⟩)] w fun e w'=>e=.returned (.bool true)∧Below w.heap.size w w':=by
 have HB1:Hid (Below w.heap.size w (w.alloc r.o)):=jH (belA bR)
 obtain ⟨c0,c1⟩:=(At.new w r.o).rwo
 obtain ⟨y0,-⟩:=(hA.below HB1.out).one
 have hne:L≠[]:=by intro hh;simp [hh] at h0
 obtain ⟨g,off,rfl,hg,hcc⟩:=(hL.bel HB1.out).cells hne
 have z0:=(hcc 0 r0 h0).1
 simp only [Nat.zero_mul,Nat.add_zero] at z0
 have n0:(0:Int)<(n:Int):=by have:=hL.len;have:=List.length_pos_iff.2 hne;omega
 have hxx:(r.x != r0.x)=true:=by simpa using hx
 have hlt:=hA.lt
 clear hA hL hcc hx h0
 go_enter Tryz.func73,Tryz.ntmps73
 go_upto_region 1 with fail
 go_quiet (fail)
 go_wp2_with fail
 go_ret
 exact ⟨rfl,belN HB1.out _⟩
theorem rows1_same (r r0:Rw) (b:Nat) (a:Option Addr) (n cap:Nat) (L:List Rw) (w:World) (hr:RwAt w r) (hA:At w b (One (.slice a n cap) 44)) (hL:RsR w a n cap L) (h0:L[0]?=some r0) (hx:r.x=r0.x):Calls Tryz.prog 73 #[r.v,.pointer (some ⟨b,0,none⟩)] w fun e w'=>e=.returned (.bool (!mayR r.x r.zs))∧Below w.heap.size w w':=by
 have HB1:Hid (Below w.heap.size w (w.alloc r.o)):=jH (belA bR)
 have HA1:=jH (At.new w r.o)
 have HAb:=jH (hA.below HB1.out)
 have HL:=jH (hL.bel HB1.out)
 have hne:L≠[]:=by intro hh;simp [hh] at h0
 obtain ⟨g,off,rfl,-,-⟩:=hL.cells hne
 have n0:(0:Int)<(n:Int):=by have:=hL.len;have:=List.length_pos_iff.2 hne;omega
 have hlt:=hA.lt
 have C:=jH (isRow_any r _ ((hr.bel HB1.out).bel (belN bR 1)))
 have n1:¬ n=0:=by omega
 have HX:=jH hx
 clear hA hL hr hx
 go_enter Tryz.func73,Tryz.ntmps73
 go_upto_region 1 with fail
 refine beginH (S:=fun V=>At V w.heap.size r.o∧At V b (One (.slice (some ⟨g,off,none⟩) n cap) 44)∧RsR V (some ⟨g,off,none⟩) n cap L) (fun _ _ _ _ _ h=>h) (by kernel_rfl) ⟨HA1.out.drew,HAb.out.drew,HL.out.bel (belN bR 1)⟩ (fun hq hH=>?_)
 refine tz 0 4 (.pointer (some ⟨w.heap.size,0,none⟩)) hq rfl rfl hH ?_
 simp only [pb,pc]
 refine tq 1 5 (.int .i64 r.x) hq rfl rfl (fun W hSw=>by (obtain ⟨x0,x1⟩:=At.rwo hSw.1;go_simp;try rfl)) hH ?_
 simp only [pb,pc]
 refine tq 2 6 (.slice (some ⟨g,off,none⟩) n cap) hq rfl rfl (fun W hSw=>by (obtain ⟨y0,-⟩:=At.one hSw.2.1;go_simp;try rfl)) hH ?_
 simp only [pb,pc]
 refine tz 3 7 (.pointer (some ⟨g,off,none⟩)) hq rfl rfl hH ?_
 simp only [pb,pc]
 refine tz 4 8 (.pointer (some ⟨g,off,none⟩)) hq rfl rfl hH ?_
 simp only [pb,pc]
 refine tq 5 9 (.int .i64 r0.x) hq rfl rfl (fun W hSw=>by (obtain ⟨gg,og,eg,hgg,hcc⟩:=hSw.2.2.cells hne;cases eg;have z0:=(hcc 0 r0 h0).1;simp only [Nat.zero_mul,Nat.add_zero] at z0;go_simp;try rfl)) hH ?_
 simp only [pb,pc]
 refine tq 6 10 (.bool false) hq rfl rfl (fun W hSw=>by (have hxx:(r.x != r0.x)=false:=(by simpa using HX.out);go_simp;try rfl)) hH ?_
 simp only [pb,pc]
 refine tz 7 11 (.bool false) hq rfl rfl hH ?_
 simp only [pb,pc]
 refine tq 8 12 (r.v) hq rfl rfl (fun W hSw=>by (obtain ⟨x0,x1⟩:=At.rwo hSw.1;go_simp;try rfl)) hH ?_
 simp only [pb,pc]
 refine aR1 9 rfl (fun K hK=>?_)
 go_simp
 refine C.out.mono ?_
 rintro e w2 ⟨rfl,hb⟩
 have HB2:=jH (jB (belN HB1.out 1) hb)
 have hH2:At w2 w.heap.size r.o∧At w2 b (One (.slice (some ⟨g,off,none⟩) n cap) 44)∧RsR w2 (some ⟨g,off,none⟩) n cap L:=⟨hH.1.below hb,hH.2.1.below hb,hH.2.2.bel hb⟩
 clear hb C
 go_wp2_with fail
 refine hK.out _ _ hH2 (fun hH=>?_)
 clear hK K hH2
 try simp only [Act.put,List.setIfInBounds_toArray,pb,pc]
 refine tz 10 14 (.bool (!mayR r.x r.zs)) hq rfl rfl hH ?_
 simp only [pb,pc]
 refine tz 11 15 (.bool (!mayR r.x r.zs)) hq rfl rfl hH ?_
 simp only [pb,pc]
 refine tz 12 3 (.bool (!mayR r.x r.zs)) hq rfl rfl hH ?_
 simp only [pb,pc]
 refine wpAnyH_done (by kernel_rfl) ?_ _
 clear hH hq
 go_wp2_with fail
 go_ret
 exact ⟨rfl,HB2.out⟩
theorem rows1_any (x:Int) (r r0:Rw) (b:Nat) (a:Option Addr) (n cap:Nat) (L:List Rw) (w:World) (hr:RwAt w r) (hA:At w b (One (.slice a n cap) 44)) (hL:RsR w a n cap L) (h0:L[0]?=some r0) (hx:r0.x=x):Calls Tryz.prog 73 #[r.v,.pointer (some ⟨b,0,none⟩)] w fun e w'=>e=.returned (.bool (badR x r))∧Below w.heap.size w w':=by
 by_cases h:r.x=r0.x
 ·refine (rows1_same r r0 b a n cap L w hr hA hL h0 h).mono fun e w' k=>⟨?_,k.2⟩
  rw [k.1]
  simp [badR,h,hx]
 ·refine (rows1_wide r r0 b a n cap L w hA hL h0 h).mono fun e w' k=>⟨?_,k.2⟩
  rw [k.1]
  rw [hx] at h
  simp [badR,h]
theorem idxR_any (x:Int) (b:Nat) (a:Option Addr) (m cap:Nat) (l:List Rw) (w:World) (h:RsR w a m cap l) (hA:At w b (One (.slice a m cap) 44)) (hx:∀ r0,l[0]?=some r0→r0.x=x) :
  Calls Tryz.prog 94 #[.slice a m cap,fnB 73 b] w fun e w'=>∃ r:Int,e=.returned (.int .i64 r)∧decide (0≤r)=l.any (badR x)∧Below w.heap.size w w':=by
 have H:=jH h
 have HA:=jH hA
 have HX:=jH hx
 have HL:=jH h.len
 have m0:(m:Int)≤9223372036854775807:=by have:=h.big;unfold maxLen at this;omega
 have hen:∀ (args:Array Value) (W:World),(callFunc 73 args).run Tryz.prog W=.ok (.enter 73 args) W:=fun args W=>by kernel_rfl
 clear h hA hx
 go_enter Tryz.func94,Tryz.ntmps94
 go_wp2_with fail
 go_loopw [8] (fun v V=>∃ i:Nat,i≤m∧v=.int .i64 (i:Int)∧(∀ (j:Nat) (p:Rw),j<i→l[j]?=some p→badR x p=false)∧Below w.heap.size w V) (fun v _=>m - (intOf v).toNat)
 case atStart=>exact ⟨0,Nat.zero_le _,rfl,fun j p h=>by omega,Below.refl _ _⟩
 case round =>
  obtain ⟨i,hi,rfl,h1,hB⟩:=hrel
  have HI:=jH h1
  have HB:=jH hB
  clear h1 hB
  by_cases hlt:i<m
  ·obtain ⟨p,hp⟩:∃ p,l[i]?=some p:=⟨_,List.getElem?_eq_getElem (by have:=HL.out;omega)⟩
   obtain ⟨r0,hr0⟩:∃ p,l[0]?=some p:=⟨_,List.getElem?_eq_getElem (by have:=HL.out;omega)⟩
   have hne:l≠[]:=by intro hh;simp [hh] at hp
   obtain ⟨g,off,ea,hg,hcc⟩:=(H.out.bel HB.out).cells hne
   obtain ⟨c0,c1⟩:=hcc i p hp
   have C:=jH (fun (V:World) (hV:Below w.heap.size w V)=>rows1_any x p r0 b a m cap l V ((H.out.at_ p (List.mem_of_getElem? hp)).bel hV) (HA.out.below hV) (H.out.bel hV) hr0 (HX.out r0 hr0))
   have ea2:a=some ⟨g,off,none⟩:=ea
   subst ea2
   obtain ⟨r,hr⟩:∃ r,r=badR x p:=⟨_,rfl⟩
   rw [← hr] at C
   have i0:(0:Int)≤(i:Int):=by omega
   have i1:(i:Int)<(m:Int):=by omega
   have HLT:=jH hlt
   have HP:=jH hp
   have HR:=jH hr
   obtain ⟨px,pa,pc,pz⟩:=p
   clear hlt hp ea hi hr hcc hr0 hne
   simp only at c0 c1
   cases r with
   | true =>
    go_wp2_with ((refine (C.out _ HB.out).mono ?_);rintro e w1 ⟨rfl,hb⟩;have HB2:=jH (jB HB.out hb);clear hb)
    go_ret
    refine ⟨_,rfl,?_,HB2.out⟩
    have:l.any (badR x)=true:=List.any_eq_true.2 ⟨_,List.mem_of_getElem? HP.out,HR.out.symm⟩
    rw [this]
    simp
   | false =>
    go_wp2_with ((refine (C.out _ HB.out).mono ?_);rintro e w1 ⟨rfl,hb⟩;have HB2:=jH (jB HB.out hb);clear hb)
    refine ⟨⟨i+1,HLT.out,rfl,fun j q hj hq=>?_,HB2.out⟩,?_⟩
    ·rcases Nat.lt_or_ge j i with h1|h1
     ·exact HI.out j q h1 hq
     ·obtain rfl:j=i:=by omega
      have:=HP.out
      rw [hq] at this
      cases this
      exact HR.out.symm
    ·show m - ((i:Int)+1).toNat<m - (i:Int).toNat
     have:=HLT.out
     omega
  ·obtain rfl:i=m:=by omega
   have lt:¬ (i:Int)<(i:Int):=by omega
   clear hlt hi
   go_wp2_with fail
   go_ret
   refine ⟨_,rfl,?_,HB.out⟩
   have:l.any (badR x)=false:=by
    rw [List.any_eq_false]
    intro p hp
    obtain ⟨j,hj⟩:=List.getElem?_of_mem hp
    have:=(List.getElem?_eq_some_iff.1 hj).1
    rw [HI.out j p (by have:=HL.out;omega) hj]
    simp
   rw [this]
   simp
theorem hasR_any (x:Int) (b:Nat) (a:Option Addr) (m cap:Nat) (l:List Rw) (w:World) (h:RsR w a m cap l) (hA:At w b (One (.slice a m cap) 44)) (hx:∀ r0,l[0]?=some r0→r0.x=x) :
  Calls Tryz.prog 72 #[.slice a m cap,fnB 73 b] w fun e w'=>e=.returned (.bool (l.any (badR x)))∧Below w.heap.size w w':=by
 have C:=jH (idxR_any x b a m cap l w h hA hx)
 clear h hA hx
 go_enter Tryz.func72,Tryz.ntmps72
 go_wp2_with (go_at_call 94;refine C.out.mono ?_;rintro e w1 ⟨r,rfl,hr,hb⟩;have HR:=jH hr;have HB:=jH hb;clear hr hb)
 go_ret
 rw [← HR.out]
 exact ⟨rfl,HB.out⟩
def fstX:List Rw→Int
 | []=>0
 | r::_=>r.x
def goodR (l:List Rw):Bool:=!l.any (badR (fstX l))
theorem areRows_any (a:Option Addr) (m cap:Nat) (l:List Rw) (w:World) (h:RsR w a m cap l) :
  Calls Tryz.prog 41 #[.slice a m cap] w fun e w'=>e=.returned (.bool (goodR l))∧Below w.heap.size w w':=by
 have C:=jH (hasR_any (fstX l) w.heap.size a m cap l (w.alloc (One (.slice a m cap) 44)) (h.bel (belA bR)) (At.new _ _) (fun r0 h0=>by
  cases l with
  | nil=>simp at h0
  | cons r l=>simp at h0;rw [← h0];rfl))
 clear h
 unfold goodR
 go_enter Tryz.func41,Tryz.ntmps41
 go_wp2_with (go_at_call 72;refine C.out.mono ?_;rintro e w1 ⟨rfl,hb⟩;have HB:=jH (below1 hb);clear hb)
 go_ret
 exact ⟨rfl,HB.out⟩
def TabZ (W:World):Prop:=∀ j,j<Lib.deBruijn64tab.length→W.cell? ⟨0,j,none⟩=some (.int .u8 (Lib.deBruijn64tab.getD j 0))
theorem TabZ.bel {W W':World} (h:TabZ W) (k:Below W.heap.size W W'):TabZ W':=fun j hj=>(k.cell (p:=⟨0,j,none⟩) (World.block_lt_of_cell? W _ (h j hj))).trans (h j hj)
theorem tz_core (x k idx:Nat) (w:World) (hx0:((x:Int) == 0)=false)
  (key:IntKind.u64.wrap (bits BinOp.and IntKind.u64 (x:Int) (IntKind.u64.wrap (-(x:Int)))*285870213051353865) / 288230376151711744=(idx:Int))
  (hi:idx<64) (hk:k<64) (hcell:w.cell? ⟨0,idx,none⟩=some (.int .u8 k)) :
  Calls Tryz.prog 77 #[.int .u64 x] w fun e w'=>e=.returned (.int .i64 k)∧w'=w:=by
 go_enter Tryz.func77,Tryz.ntmps77
 go_wp2_with (simp only [key])
 go_ret
 exact ⟨rfl,rfl⟩
theorem tz_key (x a:Nat) (hx:x<18446744073709551616) (hx0:x≠0) (hlow:x &&& (18446744073709551616 - x)=a) :
  IntKind.u64.wrap (bits BinOp.and IntKind.u64 (x:Int) (IntKind.u64.wrap (-(x:Int)))*285870213051353865) / 288230376151711744=((a*285870213051353865 % 18446744073709551616 / 288230376151711744:Nat):Int):=by
 have e1:IntKind.u64.wrap (-(x:Int))=((18446744073709551616 - x:Nat):Int):=by rw [IntKind.wrap_u64];omega
 rw [e1,bits_and_u64_nat x _ hx (by omega),hlow,IntKind.wrap_u64]
 omega
def lkW (s r:Int):Int:=bits BinOp.andNot IntKind.u64 s r
theorem lkW_rng (s r:Int):0≤lkW s r∧lkW s r<18446744073709551616:=by
 unfold lkW
 have:∃ z,bits BinOp.andNot IntKind.u64 s r=IntKind.u64.wrap z:=⟨_,rfl⟩
 obtain ⟨z,hz⟩:=this
 rw [hz,IntKind.wrap_u64]
 omega
theorem good_each {R:List Rw} (h:goodR R=true) {r:Rw} (hr:r∈R):r.x=fstX R∧mayR r.x r.zs=true:=by
 unfold goodR at h
 simp only [Bool.not_eq_true',List.any_eq_false] at h
 have:=h r hr
 simpa [badR] using this
theorem mayR_len {x:Int} {zs:List Int} (h:mayR x zs=true):0≤x∧x≤1032∧(zs.length:Int)=(x+63) / 64:=by
 simp [mayR] at h
 exact ⟨h.1.1.1,h.1.1.2,h.1.2⟩
theorem good_len {R:List Rw} (h:goodR R=true) {r s:Rw} (hr:r∈R) (hs:s∈R):r.zs.length=s.zs.length∧s.zs.length≤100:=by
 obtain ⟨a1,a2⟩:=good_each h hr
 obtain ⟨b1,b2⟩:=good_each h hs
 have c1:=mayR_len a2
 have c2:=mayR_len b2
 rw [a1] at c1
 rw [b1] at c2
 omega
theorem in_of {l:List (Int × Int)} {n:Int} (h:l.any (outB n)=false) {p:Int × Int} (hp:p∈l):(0≤p.1∧p.1<n)∧0≤p.2∧p.2<n:=by
 rw [List.any_eq_false] at h
 have:=h p hp
 simpa [outB,blwB] using this
theorem Closed_bad1 (w:World) (a:Option Addr) (m cap:Nat) (b:Option Addr) (n cap2:Nat) (R:List Rw) (hR:RsR w b n cap2 R) (hg:goodR R=false):Calls Tryz.prog 17 #[.slice a m cap,.slice b n cap2] w fun e w'=>e=.returned (.tuple #[.int .i64 0,.int .i64 0,.bool false,.int .i64 2])∧Below w.heap.size w w':=by
 have C1:=jH (areRows_any b n cap2 R w hR)
 rw [hg] at C1
 clear hR hg
 go_enter Tryz.func17,Tryz.ntmps17
 go_wp2_with (go_at_call 41;refine C1.out.mono ?_;rintro e w1 ⟨rfl,hb⟩;have HB1:=jH hb;clear hb)
 (try simp only [Exit.inBlock,Exit.then])
 refine bodyPost_ret (results_tmp4 rfl _ _ _) rfl ?_
 exact ⟨rfl,HB1.out⟩
theorem Closed_bad2 (w:World) (a:Option Addr) (m cap:Nat) (l:List (Int × Int)) (hP:PrR w a m cap l) (b:Option Addr) (n cap2:Nat) (R:List Rw) (hR:RsR w b n cap2 R) (hg:goodR R=true) (ho:l.any (outB n)=true):Calls Tryz.prog 17 #[.slice a m cap,.slice b n cap2] w fun e w'=>e=.returned (.tuple #[.int .i64 0,.int .i64 0,.bool false,.int .i64 2])∧Below w.heap.size w w':=by
 have C1:=jH (areRows_any b n cap2 R w hR)
 have C2:=jH (fun (V:World) (hV:Below w.heap.size w V)=>areBelow_any n a m cap l V (hP.bel hV))
 rw [hg] at C1
 rw [ho] at C2
 clear hR hg hP ho
 go_enter Tryz.func17,Tryz.ntmps17
 go_wp2_with (first
  | (go_at_call 41;refine C1.out.mono ?_;rintro e w1 ⟨rfl,hb⟩;have HB1:=jH hb;clear hb)
  | (go_at_call 42;refine (C2.out _ HB1.out).mono ?_;rintro e w2 ⟨rfl,hb⟩;have HB2:=jH (jB HB1.out hb);clear hb))
 (try simp only [Exit.inBlock,Exit.then])
 refine bodyPost_ret (results_tmp4 rfl _ _ _) rfl ?_
 exact ⟨rfl,HB2.out⟩
theorem lkW_bv (s r:Int):lkW s r=((BitVec.ofInt 64 s &&& ~~~ BitVec.ofInt 64 r).toNat:Int):=by
 have h:(BitVec.ofInt 64 s &&& ~~~ BitVec.ofInt 64 r).toNat<2 ^ 64:=BitVec.isLt _
 show IntKind.u64.wrap ((BitVec.ofInt 64 s &&& ~~~ BitVec.ofInt 64 r).toNat:Int)=_
 rw [IntKind.wrap_u64]
 omega
def IB (w:World) (g:Nat) (zs:List Int):Prop:=At w g (.cells (iCells zs).toArray 3 (0,0))
theorem IB.bel {w w':World} {g:Nat} {zs:List Int} (h:IB w g zs) (hb:Below w.heap.size w w'):IB w' g zs:=At.below h hb
theorem IB.cell {w:World} {g:Nat} {zs:List Int} (h:IB w g zs) {i:Nat} {z:Int} (hi:zs[i]?=some z):w.cell? ⟨g,i,none⟩=some (.int .i64 z):=by
 unfold IB At at h
 simp [World.cell?,h,iCells,hi]
theorem IB.frozen {w:World} {g:Nat} {zs:List Int} (h:IB w g zs) (i:Nat):w.frozen? ⟨g,i,none⟩=false:=frozen_of_row w g i _ 3 h
theorem IB.set {w:World} {g:Nat} {zs:List Int} (h:IB w g zs) (k:Nat) (z:Int):IB (w.setCell ⟨g,k,none⟩ (.int .i64 z)) g (zs.set k z):=by
 unfold IB At at *
 have h1:=heap_setCell_same w g k _ 3 (.int .i64 z) h
 rw [h1]
 simp [iCells,List.map_set]
theorem take_on {α:Type} {ls:List α} {i:Nat} {x:α} (h:ls[i]?=some x):ls.take (i+1)=ls.take i++[x]:=by
 obtain ⟨h1,h2⟩:=List.getElem?_eq_some_iff.1 h
 rw [← h2,List.take_succ_eq_append_getElem h1]
end Go.Proofs.YtmjenlogbkbgnaaGreatDoor
