import Derived.Test.YtmjenlogbkbgnaaGreatDoorB13
namespace Go.Proofs.YtmjenlogbkbgnaaGreatDoor
open Go.RowKit Go.Shelf
set_option linter.unusedVariables false
set_option linter.unusedSimpArgs false
set_option maxRecDepth 100000
set_option maxHeartbeats 8000000
def mkB (fc:Nat→List Ch) (st:Int) (os:List Ch):Ch→Bool
 | .leaf k s=>decide (k=5) && decide (s=st) && alikeL (fc st.toNat) os
 | _=>false
theorem make_any {w0 w:World} (hB0:Below w0.heap.size w0 w) (b:Nat) (st:Int) (a oa:Option Addr) (n cap on ocap:Nat) (k:Nat) (m:Bool) (q s:Int) (fa:Option Addr) (fn fcap:Nat)
  (hcs:∀ W,Below w.heap.size w W→W.cell? ⟨b,17,none⟩=some (.int .i64 st)∧W.cell? ⟨b,21,none⟩=some (.slice a n cap)∧W.cell? ⟨b,77,none⟩=some (.slice oa on ocap)∧W.cell? ⟨b,63,none⟩=some (.int .u8 (k:Int))∧W.cell? ⟨b,64,none⟩=some (.bool m)∧W.cell? ⟨b,65,none⟩=some (.int .i64 q)∧W.cell? ⟨b,66,none⟩=some (.int .i64 s)∧W.cell? ⟨b,67,none⟩=some (.slice fa fn fcap))
  {fc:Nat→List Ch} (hS:SF w0 a n cap fc) (hF:∀ j,j<n→∀ c∈fc j,Ok c) (os:List Ch) (hL:LcAt w oa on ocap (os.map Ch.ty)) (hon:on≤2000000) (hO:∀ c∈os,Ok c) (c:Ch) (hc:c.ok n) (hT:TyAt w ⟨k,m,q,s,fa,fn,fcap⟩ c.ty)
  (r:Bool) (hr:r=mkB fc st os c) :
  Calls Tryz.prog 198 #[.pointer (some ⟨b,0,none⟩)] w fun e w'=>e=.returned (.bool r)∧Below w.heap.size w w':=by
 have hk:=kind_at hT
 have hk2:k=kindC c:=hk
 by_cases k5:k=5
 rotate_left
 ·have hr2:r=false:=by
   cases c with
   | leaf k' s' =>
    have:k'≠5:=fun e=>k5 (by rw [hk2];exact e)
    rw [hr];simp [mkB,this]
   | box d=>exact hr
   | ref m r d=>exact hr
  subst hr2
  have k1:¬ (k:Int)=5:=by omega
  have k2:((k:Int) == 5)=false:=by simpa using k1
  have k3:((k:Int) != 5)=true:=by simpa using k1
  have HC:=jH hcs
  clear hcs hr hS hF hL hO hc hT hk hk2 hB0
  obtain ⟨c17,c21,c77,c63,c64,c65,c66,c67⟩:=HC.out _ bR
  go_enter Tryz.func198,Tryz.ntmps198
  go_upto_region 2 with ((with_reducible show wpList _ _ _ (Oper.mk none (Op.store 43 _ _) _ _ _ none::_) _ _);refine wpl_storeT1 w.heap.size zT ⟨k,m,q,s,fa,fn,fcap⟩ (At.new w _) rfl rfl ?_;intro w9 hA9 hB9;have HF:=jH hA9;have HB9:Hid (Below w.heap.size w w9):=belBut (belA bR) hB9 (Nat.le_refl _) (by simp);clear hA9 hB9)
  clear c17 c21 c77 c63 c64 c65 c66 c67
  obtain ⟨c17,c21,c77,c63,c64,c65,c66,c67⟩:=HC.out _ HB9.out
  obtain ⟨-,y0,y1,y2,y3,y4⟩:=HF.out.ty
  simp only [Nat.zero_add] at y0 y1 y2 y3 y4
  have hlt:=HF.out.lt
  go_quiet (fail)
  go_wp2_with fail
  go_ret
  exact ⟨rfl,belN HB9.out _⟩
 subst k5
 obtain ⟨s',rfl⟩:∃ s',c=.leaf 5 s':=by
  cases c with
  | leaf k' s'=>exact ⟨s',by rw [show k'=5 from hk2.symm]⟩
  | box d=>cases hk2
  | ref m r d=>cases hk2
 obtain ⟨xa,xc,hfe,-⟩:=hT.leaf
 cases hfe
 have hk5:((5:Nat)=1∨(5:Nat)=2)∧s=0∨(5:Nat)=5∧0≤s∧s<n:=hc
 obtain ⟨j,rfl⟩:∃ j:Nat,s=(j:Int):=⟨s.toNat,by omega⟩
 have hj:j<n:=by omega
 by_cases hst:st=(j:Int)
 rotate_left
 ·have hr2:r=false:=by rw [hr];show (decide ((5:Nat)=5) && decide ((j:Int)=st) && alikeL (fc st.toNat) os)=false;rw [decide_eq_false (p:=(j:Int)=st) (fun e=>hst e.symm)];rfl
  subst hr2
  have k2:((j:Int) == st)=false:=by simp;exact fun e=>hst e.symm
  have k3:((j:Int) != st)=true:=by simp;exact fun e=>hst e.symm
  have HC:=jH hcs
  clear hcs hr hS hF hL hO hc hT hk hk2 hB0 hk5 hst
  obtain ⟨c17,c21,c77,c63,c64,c65,c66,c67⟩:=HC.out _ bR
  go_enter Tryz.func198,Tryz.ntmps198
  go_upto_region 2 with ((with_reducible show wpList _ _ _ (Oper.mk none (Op.store 43 _ _) _ _ _ none::_) _ _);refine wpl_storeT1 w.heap.size zT ⟨5,false,0,(j:Int),fa,0,fcap⟩ (At.new w _) rfl rfl ?_;intro w9 hA9 hB9;have HF:=jH hA9;have HB9:Hid (Below w.heap.size w w9):=belBut (belA bR) hB9 (Nat.le_refl _) (by simp);clear hA9 hB9)
  clear c17 c21 c77 c63 c64 c65 c66 c67
  obtain ⟨c17,c21,c77,c63,c64,c65,c66,c67⟩:=HC.out _ HB9.out
  obtain ⟨-,y0,y1,y2,y3,y4⟩:=HF.out.ty
  simp only [Nat.zero_add] at y0 y1 y2 y3 y4
  have hlt:=HF.out.lt
  go_quiet (fail)
  go_wp2_with fail
  go_ret
  exact ⟨rfl,belN HB9.out _⟩
 subst hst
 have hr2:r=alikeL (fc j) os:=by rw [hr];simp [mkB]
 obtain ⟨g,off,ga,gcap,ea,hg,hcell,hFd⟩:=hS.st j hj
 have hlen:=hS.len j hj
 subst ea
 obtain ⟨gm,hgm⟩:∃ gm,gm=(fc j).length:=⟨_,rfl⟩
 rw [← hgm] at hcell hlen
 have CE:Hid (∀ W,Below w.heap.size w W→Calls Tryz.prog 216 #[.slice ga gm gcap,.slice oa on ocap,fnV 217] W fun e w'=>e=.returned (.bool r)∧Below W.heap.size W w'):=fun W hW=>eqF_any W ga oa gm on gcap ocap (fc j) os (hFd.bel (jB hB0 hW)) hgm (hL.bel hW) (by omega) hon (hF j hj) hO r hr2
 have HG:Hid (∀ W,Below w.heap.size w W→W.cell? ⟨g,off+j*2+1,none⟩=some (.slice ga gm gcap)):=fun W hW=>((jB hB0 hW).cell (p:=⟨g,off+j*2+1,none⟩) hg).trans hcell
 have HC:=jH hcs
 have j0:(0:Int)≤(j:Int):=by omega
 have j1:(j:Int)<(n:Int):=by omega
 have j2:(j:Int)≤32:=by have:=hS.le;omega
 have k2:((j:Int) == (j:Int))=true:=by simp
 have k3:((j:Int) != (j:Int))=false:=by simp
 clear hcs hr hr2 hS hF hL hO hc hT hk hk2 hB0 hk5 hcell hFd hg hgm
 obtain ⟨c17,c21,c77,c63,c64,c65,c66,c67⟩:=HC.out _ bR
 go_enter Tryz.func198,Tryz.ntmps198
 go_upto_region 2 with ((with_reducible show wpList _ _ _ (Oper.mk none (Op.store 43 _ _) _ _ _ none::_) _ _);refine wpl_storeT1 w.heap.size zT ⟨5,false,0,(j:Int),fa,0,fcap⟩ (At.new w _) rfl rfl ?_;intro w9 hA9 hB9;have HF:=jH hA9;have HB9:Hid (Below w.heap.size w w9):=belBut (belA bR) hB9 (Nat.le_refl _) (by simp);clear hA9 hB9)
 clear c17 c21 c77 c63 c64 c65 c66 c67
 obtain ⟨c17,c21,c77,c63,c64,c65,c66,c67⟩:=HC.out _ HB9.out
 obtain ⟨-,y0,y1,y2,y3,y4⟩:=HF.out.ty
 simp only [Nat.zero_add] at y0 y1 y2 y3 y4
 have hlt:=HF.out.lt
 go_quiet (fail)
 clear y0 y1 y2 y3 y4 c17 c21 c77 c63 c64 c65 c66 c67
 go_upto_region 4 with fail
 refine beginH (S:=fun V=>Below w9.heap.size w9 V) (fun _ _ _ _ _ h=>h) (by kernel_rfl) (belN (belN bR nq) 1) (fun hq hH=>?_)
 refine tz 0 22 (.pointer (some ⟨b,0,none⟩)) hq rfl rfl hH ?_
 simp only [pb,pc]
 refine tz 1 23 (.pointer (some ⟨b,0,none⟩)) hq rfl rfl hH ?_
 simp only [pb,pc]
 refine tz 2 24 (.pointer (some ⟨b,21,none⟩)) hq rfl rfl hH ?_
 simp only [pb,pc]
 refine tz 3 25 (.pointer (some ⟨b,21,none⟩)) hq rfl rfl hH ?_
 simp only [pb,pc]
 refine tq 4 26 (.slice (some ⟨g,off,none⟩) n cap) hq rfl rfl (fun W hSw=>by (obtain ⟨c17,c21,c77,c63,c64,c65,c66,c67⟩:=HC.out _ (jB HB9.out hSw);have gc:=HG.out _ (jB HB9.out hSw);go_simp;try rfl)) hH ?_
 simp only [pb,pc]
 refine tz 5 27 (.pointer (some ⟨b,0,none⟩)) hq rfl rfl hH ?_
 simp only [pb,pc]
 refine tz 6 28 (.pointer (some ⟨b,0,none⟩)) hq rfl rfl hH ?_
 simp only [pb,pc]
 refine tz 7 29 (.pointer (some ⟨b,0,none⟩)) hq rfl rfl hH ?_
 simp only [pb,pc]
 refine tz 8 30 (.pointer (some ⟨b,17,none⟩)) hq rfl rfl hH ?_
 simp only [pb,pc]
 refine tq 9 31 (.int .i64 (j:Int)) hq rfl rfl (fun W hSw=>by (obtain ⟨c17,c21,c77,c63,c64,c65,c66,c67⟩:=HC.out _ (jB HB9.out hSw);have gc:=HG.out _ (jB HB9.out hSw);go_simp;try rfl)) hH ?_
 simp only [pb,pc]
 refine tz 10 32 (.pointer (some ⟨g,off+j*2,none⟩)) hq rfl rfl hH ?_
 simp only [pb,pc]
 refine tz 11 33 (.pointer (some ⟨g,off+j*2+1,none⟩)) hq rfl rfl hH ?_
 simp only [pb,pc]
 refine tq 12 34 (.slice ga gm gcap) hq rfl rfl (fun W hSw=>by (obtain ⟨c17,c21,c77,c63,c64,c65,c66,c67⟩:=HC.out _ (jB HB9.out hSw);have gc:=HG.out _ (jB HB9.out hSw);go_simp;try rfl)) hH ?_
 simp only [pb,pc]
 refine tz 13 35 (.pointer (some ⟨b,0,none⟩)) hq rfl rfl hH ?_
 simp only [pb,pc]
 refine tz 14 36 (.pointer (some ⟨b,0,none⟩)) hq rfl rfl hH ?_
 simp only [pb,pc]
 refine tz 15 37 (.pointer (some ⟨b,77,none⟩)) hq rfl rfl hH ?_
 simp only [pb,pc]
 refine tq 16 38 (.slice oa on ocap) hq rfl rfl (fun W hSw=>by (obtain ⟨c17,c21,c77,c63,c64,c65,c66,c67⟩:=HC.out _ (jB HB9.out hSw);have gc:=HG.out _ (jB HB9.out hSw);go_simp;try rfl)) hH ?_
 simp only [pb,pc]
 refine aR1 17 rfl (fun K hK=>?_)
 go_simp
 refine (CE.out _ (jB HB9.out (belN bR (nq+1)))).mono ?_
 rintro e v1 ⟨rfl,hb1⟩
 have hS1:Below w9.heap.size w9 v1:=jB (belN bR (nq+1)) hb1
 go_wp2_with fail
 refine hK.out _ _ hS1 (fun hH=>?_)
 clear hK K
 try simp only [Act.put,List.setIfInBounds_toArray,pb,pc]
 have HS1:=jH hS1
 clear hb1 hS1
 refine tz 18 2 (.bool r) hq rfl rfl hH ?_
 simp only [pb,pc]
 refine wpAnyH_done (by kernel_rfl) ?_ _
 go_wp2_with fail
 go_ret
 exact ⟨rfl,jB HB9.out HS1.out⟩
abbrev uV (a:Option Addr) (n cap:Nat) (ua:Option Addr) (un ucap:Nat) (mn:Int):Value:=.agg #[.slice a n cap,.slice ua un ucap,.int .i64 mn]
abbrev uO (a:Option Addr) (n cap:Nat) (ua:Option Addr) (un ucap:Nat) (mn:Int):Obj:=.cells #[.slice a n cap,.slice ua un ucap,.int .i64 mn] 25 (0,0)
theorem At.un {w:World} {b:Nat} {a:Option Addr} {n cap:Nat} {ua:Option Addr} {un ucap:Nat} {mn:Int} (h:At w b (uO a n cap ua un ucap mn)):w.cell? ⟨b,0,none⟩=some (.slice a n cap)∧w.cell? ⟨b,1,none⟩=some (.slice ua un ucap)∧w.cell? ⟨b,2,none⟩=some (.int .i64 mn):=by
 unfold At at h
 exact ⟨by simp [World.cell?,h],by simp [World.cell?,h],by simp [World.cell?,h]⟩
def unitB (so:Bool) (un:Nat) (mn:Int):Bool:=so && decide (un≤32) && decide (0≤mn) && decide (mn<(un:Int))
def fltV (ok:Bool):Value:=if ok then .tuple #[.int .i64 0,.int .i64 0,.bool false] else .tuple #[.int .i64 (-1),.int .i64 (-1),.bool true]
theorem unitFault_any (w:World) (a ua:Option Addr) (n cap un ucap:Nat) (mn:Int) (ss:List (List Ty)) (h:StAt w a n cap ss) (b1 b2 b3:Nat→Bool) (hb:Flt ss b1 b2 b3) (ok:Bool) (hok:ok=unitB (decide ((stRes n b1 b2 b3).2=0)) un mn) :
  Calls Tryz.prog 157 #[uV a n cap ua un ucap mn] w fun e w'=>e=.returned (fltV ok)∧Below w.heap.size w w':=by
 have HA:Hid (At (w.alloc (uO a n cap ua un ucap mn)) w.heap.size (uO a n cap ua un ucap mn)):=At.new _ _
 have HB0:Hid (Below w.heap.size w (w.alloc (uO a n cap ua un ucap mn))):=belA bR
 have CS0:∀ W,Below w.heap.size w W→Calls Tryz.prog 167 #[.slice a n cap] W fun e w'=>e=.returned (.tuple #[.int .i64 ((stRes n b1 b2 b3).1:Int),.int .i64 ((stRes n b1 b2 b3).2:Int)])∧Below W.heap.size W w':=fun W hW=>Structs_any a n cap ss W (h.bel hW) b1 b2 b3 hb
 obtain ⟨x,hx⟩:∃ x,x=(stRes n b1 b2 b3).1:=⟨_,rfl⟩
 obtain ⟨y,hy⟩:∃ y,y=(stRes n b1 b2 b3).2:=⟨_,rfl⟩
 rw [← hx,← hy] at CS0
 rw [← hy] at hok
 have CS:=jH CS0
 clear CS0 hx hy h hb
 by_cases hy0:y=0
 ·subst hy0
  by_cases hu:un≤32
  ·have u1:¬ (32:Int)<(un:Int):=by omega
   by_cases hm:0≤mn
   ·have m1:¬ mn<0:=by omega
    by_cases hm2:mn<(un:Int)
    ·have m2:¬ (un:Int)≤mn:=by omega
     have e1:ok=true:=by rw [hok];simp [unitB,hu,hm,hm2]
     subst e1
     clear hok hu hm hm2
     show Calls Tryz.prog 157 _ w fun e w'=>e=.returned (.tuple #[.int .i64 0,.int .i64 0,.bool false])∧Below w.heap.size w w'
     go_enter Tryz.func157,Tryz.ntmps157
     go_wp2_with (go_at_call 167;refine (CS.out _ HB0.out).mono ?_;rintro e w1 ⟨rfl,hb1⟩;have HF:=jH (jB HB0.out hb1);have HA1:=jH (HA.out.below hb1);obtain ⟨d0,d1,d2⟩:=HA1.out.un;clear hb1)
     go_ret3
     exact ⟨rfl,HF.out⟩
    ·have m2:(un:Int)≤mn:=by omega
     have e1:ok=false:=by rw [hok];simp [unitB,hm2]
     subst e1
     clear hok hu hm hm2
     show Calls Tryz.prog 157 _ w fun e w'=>e=.returned (.tuple #[.int .i64 (-1),.int .i64 (-1),.bool true])∧Below w.heap.size w w'
     go_enter Tryz.func157,Tryz.ntmps157
     go_wp2_with (go_at_call 167;refine (CS.out _ HB0.out).mono ?_;rintro e w1 ⟨rfl,hb1⟩;have HF:=jH (jB HB0.out hb1);have HA1:=jH (HA.out.below hb1);obtain ⟨d0,d1,d2⟩:=HA1.out.un;clear hb1)
     go_ret3
     exact ⟨rfl,HF.out⟩
   ·have m1:mn<0:=by omega
    have e1:ok=false:=by rw [hok];simp [unitB,hm]
    subst e1
    clear hok hu hm
    show Calls Tryz.prog 157 _ w fun e w'=>e=.returned (.tuple #[.int .i64 (-1),.int .i64 (-1),.bool true])∧Below w.heap.size w w'
    go_enter Tryz.func157,Tryz.ntmps157
    go_wp2_with (go_at_call 167;refine (CS.out _ HB0.out).mono ?_;rintro e w1 ⟨rfl,hb1⟩;have HF:=jH (jB HB0.out hb1);have HA1:=jH (HA.out.below hb1);obtain ⟨d0,d1,d2⟩:=HA1.out.un;clear hb1)
    go_ret3
    exact ⟨rfl,HF.out⟩
  ·have u1:(32:Int)<(un:Int):=by omega
   have e1:ok=false:=by rw [hok];simp [unitB,hu]
   subst e1
   clear hok hu
   show Calls Tryz.prog 157 _ w fun e w'=>e=.returned (.tuple #[.int .i64 (-1),.int .i64 (-1),.bool true])∧Below w.heap.size w w'
   go_enter Tryz.func157,Tryz.ntmps157
   go_wp2_with (go_at_call 167;refine (CS.out _ HB0.out).mono ?_;rintro e w1 ⟨rfl,hb1⟩;have HF:=jH (jB HB0.out hb1);have HA1:=jH (HA.out.below hb1);obtain ⟨d0,d1,d2⟩:=HA1.out.un;clear hb1)
   go_ret3
   exact ⟨rfl,HF.out⟩
 ·have y1:¬ (y:Int)=0:=by omega
  have y2:((y:Int) == 0)=false:=by simpa using y1
  have y3:((y:Int) != 0)=true:=by simpa using y1
  have e1:ok=false:=by rw [hok];simp [unitB,hy0]
  subst e1
  clear hok hy0
  show Calls Tryz.prog 157 _ w fun e w'=>e=.returned (.tuple #[.int .i64 (-1),.int .i64 (-1),.bool true])∧Below w.heap.size w w'
  go_enter Tryz.func157,Tryz.ntmps157
  go_wp2_with (go_at_call 167;refine (CS.out _ HB0.out).mono ?_;rintro e w1 ⟨rfl,hb1⟩;have HF:=jH (jB HB0.out hb1);have HA1:=jH (HA.out.below hb1);obtain ⟨d0,d1,d2⟩:=HA1.out.un;clear hb1)
  go_ret3
  exact ⟨rfl,HF.out⟩
abbrev hV (nm:ByteArray) (lv:Int) (oa:Option Addr) (on oc:Nat) (pa:Int) (la:Option Addr) (ln lc:Nat) (na:Option Addr) (nn nc:Nat) (qa:Option Addr) (qn qc:Nat) (sa:Option Addr) (sn sc:Nat) (im:Bool):Value:=.agg #[.string nm,.int .i64 lv,.slice oa on oc,.int .i64 pa,.slice la ln lc,.slice na nn nc,.slice qa qn qc,.slice sa sn sc,.bool im]
def cntB (lv pa:Int) (ln nn qn:Nat):Bool:=decide (0≤lv) && decide (lv≤8) && decide (0≤pa) && decide (pa≤8) && decide (pa<(ln:Int)) && decide (ln≤512) && decide (nn=ln) && decide (1≤qn) && decide (qn≤1024)
theorem counts_any (nm:ByteArray) (lv:Int) (oa:Option Addr) (on oc:Nat) (pa:Int) (la:Option Addr) (ln lc:Nat) (na:Option Addr) (nn nc:Nat) (qa:Option Addr) (qn qc:Nat) (sa:Option Addr) (sn sc:Nat) (im:Bool) (w:World) (r:Bool) (hr:r=cntB lv pa ln nn qn):Calls Tryz.prog 168 #[hV nm lv oa on oc pa la ln lc na nn nc qa qn qc sa sn sc im] w fun e w'=>e=.returned (.bool r)∧Below w.heap.size w w':=by
 by_cases g0:0≤lv
 rotate_left
 ·have e1:r=false:=by rw [hr];simp [cntB,g0]
  subst e1
  have f0_0:lv<0:=by omega
  clear hr g0
  go_enter Tryz.func168,Tryz.ntmps168
  go_wp2_with fail
  go_ret
  exact ⟨rfl,belA bR⟩
 have f0_0:¬ lv<0:=by omega
 by_cases g1:lv≤8
 rotate_left
 ·have e1:r=false:=by rw [hr];simp [cntB,g1]
  subst e1
  have f1_0:(8:Int)<lv:=by omega
  clear hr g0 g1
  go_enter Tryz.func168,Tryz.ntmps168
  go_wp2_with fail
  go_ret
  exact ⟨rfl,belA bR⟩
 have f1_0:¬ (8:Int)<lv:=by omega
 by_cases g2:0≤pa
 rotate_left
 ·have e1:r=false:=by rw [hr];simp [cntB,g2]
  subst e1
  have f2_0:pa<0:=by omega
  clear hr g0 g1 g2
  go_enter Tryz.func168,Tryz.ntmps168
  go_wp2_with fail
  go_ret
  exact ⟨rfl,belA bR⟩
 have f2_0:¬ pa<0:=by omega
 by_cases g3:pa≤8
 rotate_left
 ·have e1:r=false:=by rw [hr];simp [cntB,g3]
  subst e1
  have f3_0:(8:Int)<pa:=by omega
  clear hr g0 g1 g2 g3
  go_enter Tryz.func168,Tryz.ntmps168
  go_wp2_with fail
  go_ret
  exact ⟨rfl,belA bR⟩
 have f3_0:¬ (8:Int)<pa:=by omega
 by_cases g4:pa<(ln:Int)
 rotate_left
 ·have e1:r=false:=by rw [hr];simp [cntB,g4]
  subst e1
  have f4_0:(ln:Int)≤pa:=by omega
  clear hr g0 g1 g2 g3 g4
  go_enter Tryz.func168,Tryz.ntmps168
  go_wp2_with fail
  go_ret
  exact ⟨rfl,belA bR⟩
 have f4_0:¬ (ln:Int)≤pa:=by omega
 by_cases g5:ln≤512
 rotate_left
 ·have e1:r=false:=by rw [hr];simp [cntB,g5]
  subst e1
  have f5_0:(512:Int)<(ln:Int):=by omega
  clear hr g0 g1 g2 g3 g4 g5
  go_enter Tryz.func168,Tryz.ntmps168
  go_wp2_with fail
  go_ret
  exact ⟨rfl,belA bR⟩
 have f5_0:¬ (512:Int)<(ln:Int):=by omega
 by_cases g6:nn=ln
 rotate_left
 ·have e1:r=false:=by rw [hr];simp [cntB,g6]
  subst e1
  have f6_0:((nn:Int) == (ln:Int))=false:=by simp;omega
  have f6_1:((nn:Int) != (ln:Int))=true:=by simp;omega
  have f6_2:¬ (nn:Int)=(ln:Int):=by omega
  clear hr g0 g1 g2 g3 g4 g5 g6
  go_enter Tryz.func168,Tryz.ntmps168
  go_wp2_with fail
  go_ret
  exact ⟨rfl,belA bR⟩
 have f6_0:((nn:Int) == (ln:Int))=true:=by simp;omega
 have f6_1:((nn:Int) != (ln:Int))=false:=by simp;omega
 by_cases g7:1≤qn
 rotate_left
 ·have e1:r=false:=by rw [hr];simp [cntB,g7]
  subst e1
  have f7_0:¬ (1:Int)≤(qn:Int):=by omega
  clear hr g0 g1 g2 g3 g4 g5 g6 g7
  go_enter Tryz.func168,Tryz.ntmps168
  go_wp2_with fail
  go_ret
  exact ⟨rfl,belA bR⟩
 have f7_0:(1:Int)≤(qn:Int):=by omega
 by_cases g8:qn≤1024
 rotate_left
 ·have e1:r=false:=by rw [hr];simp [cntB,g8]
  subst e1
  have f8_0:¬ (qn:Int)≤1024:=by omega
  clear hr g0 g1 g2 g3 g4 g5 g6 g7 g8
  go_enter Tryz.func168,Tryz.ntmps168
  go_wp2_with fail
  go_ret
  exact ⟨rfl,belA bR⟩
 have f8_0:(qn:Int)≤1024:=by omega
 have e1:r=true:=by rw [hr];simp [cntB,g0,g1,g2,g3,g4,g5,g6,g7,g8]
 subst e1
 clear hr g0 g1 g2 g3 g4 g5 g6 g7 g8
 go_enter Tryz.func168,Tryz.ntmps168
 go_wp2_with fail
 go_ret
 exact ⟨rfl,belA bR⟩
theorem main_any (nm:ByteArray) (lv:Int) (oa:Option Addr) (on oc:Nat) (pa:Int) (la:Option Addr) (ln lc:Nat) (na:Option Addr) (nn nc:Nat) (qa:Option Addr) (qn qc:Nat) (sa:Option Addr) (sn sc:Nat) (im:Bool) (w:World) (g off k:Nat) (hla:la=some ⟨g,off,none⟩) (hg:g<w.heap.size) (hc:w.cell? ⟨g,off,none⟩=some (.int .u8 (k:Int))) (hl:0<ln) (hl2:ln≤512) (r:Bool) (hr:r=(!im || (decide (lv=0) && decide (pa=0) && decide (k=1)))):Calls Tryz.prog 172 #[hV nm lv oa on oc pa la ln lc na nn nc qa qn qc sa sn sc im] w fun e w'=>e=.returned (.bool r)∧Below w.heap.size w w':=by
 subst hla
 have l0:(0:Int)<(ln:Int):=by omega
 have l1:(ln:Int)≤512:=by omega
 cases im with
 | false =>
  have e1:r=true:=hr
  subst e1
  clear hr
  go_enter Tryz.func172,Tryz.ntmps172
  go_wp2_with fail
  go_ret
  exact ⟨rfl,belA bR⟩
 | true =>
  by_cases h1:lv=0
  ·subst h1
   by_cases h2:pa=0
   ·subst h2
    by_cases h3:k=1
    ·subst h3
     have e1:r=true:=by rw [hr];rfl
     subst e1
     have hc':w.cell? ⟨g,off,none⟩=some (.int .u8 1):=hc
     clear hr hc
     go_enter Tryz.func172,Tryz.ntmps172
     go_wp2_with fail
     go_ret
     exact ⟨rfl,belA bR⟩
    ·have e1:r=false:=by rw [hr,decide_eq_false h3];rfl
     subst e1
     have k1:¬ (k:Int)=1:=by omega
     have k2:((k:Int) == 1)=false:=by simpa using k1
     clear hr h3
     go_enter Tryz.func172,Tryz.ntmps172
     go_wp2_with fail
     go_ret
     exact ⟨rfl,belA bR⟩
   ·have e1:r=false:=by rw [hr,decide_eq_false h2];rfl
    subst e1
    have k2:(pa == 0)=false:=by simpa using h2
    clear hr
    go_enter Tryz.func172,Tryz.ntmps172
    go_wp2_with fail
    go_ret
    exact ⟨rfl,belA bR⟩
  ·have e1:r=false:=by rw [hr,decide_eq_false h1];rfl
   subst e1
   have k2:(lv == 0)=false:=by simpa using h1
   clear hr
   go_enter Tryz.func172,Tryz.ntmps172
   go_wp2_with fail
   go_ret
   exact ⟨rfl,belA bR⟩
theorem isLife_any (nm:ByteArray) (lv:Int) (oa:Option Addr) (on oc:Nat) (pa:Int) (la:Option Addr) (ln lc:Nat) (na:Option Addr) (nn nc:Nat) (qa:Option Addr) (qn qc:Nat) (sa:Option Addr) (sn sc:Nat) (im:Bool) (x:Int) (w:World) (r:Bool) (hr:r=(decide (0≤x) && decide (x<lv))):Calls Tryz.prog 184 #[hV nm lv oa on oc pa la ln lc na nn nc qa qn qc sa sn sc im,.int .i64 x] w fun e w'=>e=.returned (.bool r)∧Below w.heap.size w w':=by
 by_cases h1:0≤x
 ·by_cases h2:x<lv
  ·have e1:r=true:=by rw [hr,decide_eq_true h1,decide_eq_true h2];rfl
   subst e1
   clear hr
   go_enter Tryz.func184,Tryz.ntmps184
   go_wp2_with fail
   go_ret
   exact ⟨rfl,belA bR⟩
  ·have e1:r=false:=by rw [hr,decide_eq_false h2,Bool.and_false]
   subst e1
   clear hr
   go_enter Tryz.func184,Tryz.ntmps184
   go_wp2_with fail
   go_ret
   exact ⟨rfl,belA bR⟩
 ·have e1:r=false:=by rw [hr,decide_eq_false h1];rfl
  subst e1
  clear hr
  go_enter Tryz.func184,Tryz.ntmps184
  go_wp2_with fail
  go_ret
  exact ⟨rfl,belA bR⟩
theorem rises_any (a1 a2 b1 b2:Int) (w:World) (r:Bool) (hr:r=(decide (a1<b1) || decide (a1=b1) && decide (a2<b2))):Calls Tryz.prog 185 #[.agg #[.int .i64 a1,.int .i64 a2],.agg #[.int .i64 b1,.int .i64 b2]] w fun e w'=>e=.returned (.bool r)∧Below w.heap.size w w':=by
 by_cases h1:a1<b1
 ·have e1:r=true:=by rw [hr,decide_eq_true h1];rfl
  subst e1
  clear hr
  go_enter Tryz.func185,Tryz.ntmps185
  go_wp2_with fail
  go_ret
  exact ⟨rfl,belA (belA bR)⟩
 ·by_cases h2:a1=b1
  ·have k2:(a1 == b1)=true:=by simpa using h2
   by_cases h3:a2<b2
   ·have e1:r=true:=by rw [hr,decide_eq_false h1,decide_eq_true h2,decide_eq_true h3];rfl
    subst e1
    clear hr h2
    go_enter Tryz.func185,Tryz.ntmps185
    go_wp2_with fail
    go_ret
    exact ⟨rfl,belA (belA bR)⟩
   ·have e1:r=false:=by rw [hr,decide_eq_false h1,decide_eq_false h3,Bool.and_false];rfl
    subst e1
    clear hr h2
    go_enter Tryz.func185,Tryz.ntmps185
    go_wp2_with fail
    go_ret
    exact ⟨rfl,belA (belA bR)⟩
  ·have k2:(a1 == b1)=false:=by simpa using h2
   have e1:r=false:=by rw [hr,decide_eq_false h1,decide_eq_false h2];rfl
   subst e1
   clear hr
   go_enter Tryz.func185,Tryz.ntmps185
   go_wp2_with fail
   go_ret
   exact ⟨rfl,belA (belA bR)⟩
def clP (M:Nat→Nat→Bool) (a b c:Nat):Prop:=M a b=true→M b c=true→a≠c→M a c=true
theorem isClosed_any (w:World) (b:Nat) (M:Nat→Nat→Bool) (hM:∀ i j,i<8→j<8→w.cell? ⟨b,i*8+j,none⟩=some (.bool (M i j))) (r:Bool) (hr:r=true↔∀ x y z,x<8→y<8→z<8→clP M x y z) :
  Calls Tryz.prog 186 #[.pointer (some ⟨b,0,none⟩)] w fun e w'=>e=.returned (.bool r)∧w'=w:=by
 have HM:=jH hM
 have HR:=jH hr
 clear hM hr
 go_enter Tryz.func186,Tryz.ntmps186
 go_wp2_with fail
 go_loopw [6] (fun v V=>∃ i:Nat,i≤8∧v=.int .i64 (i:Int)∧(∀ x,x<i→∀ y z,y<8→z<8→clP M x y z)∧V=w) (fun v _=>8 - (intOf v).toNat)
 case atStart=>exact ⟨0,by omega,rfl,fun x hx=>by omega,rfl⟩
 case round =>
  obtain ⟨i,hi,rfl,h1,rfl⟩:=hrel
  have HI1:=jH h1
  clear h1
  by_cases hlt:i<8
  ·have i0:(0:Int)≤(i:Int):=by omega
   have i1:(i:Int)<8:=by omega
   have HI:=jH hlt
   clear hlt hi
   go_wp2_with fail
   go_loopw [9] (fun v V=>∃ j:Nat,j≤8∧v=.int .i64 (j:Int)∧(∀ y,y<j→∀ z,z<8→clP M i y z)∧V=wr) (fun v _=>8 - (intOf v).toNat)
   case atStart=>exact ⟨0,by omega,rfl,fun x hx=>by omega,rfl⟩
   case round =>
    obtain ⟨j,hj,rfl,h2,rfl⟩:=hrel
    have HJ2:=jH h2
    clear h2
    by_cases hlt:j<8
    ·have j0:(0:Int)≤(j:Int):=by omega
     have j1:(j:Int)<8:=by omega
     have HJ:=jH hlt
     clear hlt hj
     go_wp2_with fail
     go_loopw [12] (fun v V=>∃ k:Nat,k≤8∧v=.int .i64 (k:Int)∧(∀ z,z<k→clP M i j z)∧V=wr) (fun v _=>8 - (intOf v).toNat)
     case atStart=>exact ⟨0,by omega,rfl,fun x hx=>by omega,rfl⟩
     case round =>
      obtain ⟨k,hk,rfl,h3,rfl⟩:=hrel
      have HK3:=jH h3
      clear h3
      by_cases hlt:k<8
      ·have k0:(0:Int)≤(k:Int):=by omega
       have k1:(k:Int)<8:=by omega
       have HK:=jH hlt
       have c1:=HM.out i j HI.out HJ.out
       have c2:=HM.out j k HJ.out HK.out
       have c3:=HM.out i k HI.out HK.out
       obtain ⟨x,hx⟩:∃ x,x=M i j:=⟨_,rfl⟩
       obtain ⟨y,hy⟩:∃ y,y=M j k:=⟨_,rfl⟩
       obtain ⟨u,hu⟩:∃ u,u=M i k:=⟨_,rfl⟩
       rw [← hx] at c1
       rw [← hy] at c2
       rw [← hu] at c3
       clear hlt hk
       cases x with
       | false =>
        have HPk:Hid (clP M i j k):=jH (fun e _ _=>by rw [← hx] at e;cases e)
        clear hx hy hu c2 c3
        go_wp2_with fail
        refine ⟨⟨k+1,HK.out,rfl,fun c hc=>?_,trivial⟩,?_⟩
        ·rcases Nat.lt_or_ge c k with h1|h1
         ·exact HK3.out c h1
         ·obtain rfl:c=k:=by omega
          exact HPk.out
        ·show 8 - ((k:Int)+1).toNat<8 - (k:Int).toNat
         have:=HK.out
         omega
       | true =>
        cases y with
        | false =>
         have HPk:Hid (clP M i j k):=jH (fun _ e _=>by rw [← hy] at e;cases e)
         clear hx hy hu c3
         go_wp2_with fail
         refine ⟨⟨k+1,HK.out,rfl,fun c hc=>?_,trivial⟩,?_⟩
         ·rcases Nat.lt_or_ge c k with h1|h1
          ·exact HK3.out c h1
          ·obtain rfl:c=k:=by omega
           exact HPk.out
         ·show 8 - ((k:Int)+1).toNat<8 - (k:Int).toNat
          have:=HK.out
          omega
        | true =>
         by_cases hik:i=k
         ·have HPk:Hid (clP M i j k):=jH (fun _ _ e=>absurd hik e)
          have e1:((i:Int) == (k:Int))=true:=by rw [hik];simp
          have e2:((i:Int) != (k:Int))=false:=by rw [hik];simp
          clear hx hy hu c3 hik
          go_wp2_with fail
          refine ⟨⟨k+1,HK.out,rfl,fun c hc=>?_,trivial⟩,?_⟩
          ·rcases Nat.lt_or_ge c k with h1|h1
           ·exact HK3.out c h1
           ·obtain rfl:c=k:=by omega
            exact HPk.out
          ·show 8 - ((k:Int)+1).toNat<8 - (k:Int).toNat
           have:=HK.out
           omega
         ·have e1:((i:Int) == (k:Int))=false:=by simp;omega
          have e2:((i:Int) != (k:Int))=true:=by simp;omega
          have e3:¬ (i:Int)=(k:Int):=by omega
          cases u with
          | true =>
           have HPk:Hid (clP M i j k):=jH (fun _ _ _=>hu.symm)
           clear hx hy hu hik
           go_wp2_with fail
           refine ⟨⟨k+1,HK.out,rfl,fun c hc=>?_,trivial⟩,?_⟩
           ·rcases Nat.lt_or_ge c k with h1|h1
            ·exact HK3.out c h1
            ·obtain rfl:c=k:=by omega
             exact HPk.out
           ·show 8 - ((k:Int)+1).toNat<8 - (k:Int).toNat
            have:=HK.out
            omega
          | false =>
           have hno:r=false:=by
            cases hrr:r with
            | false=>rfl
            | true =>
             have:=HR.out.1 hrr i j k HI.out HJ.out HK.out hx.symm hy.symm hik
             rw [← hu] at this
             cases this
           clear hx hy hu hik
           go_wp2_with fail
           go_ret
           refine ⟨?_,rfl⟩
           rw [hno]
           rfl
      ·obtain rfl:k=8:=by omega
       clear hlt hk
       rw [show ((8:Nat):Int)=8 from rfl]
       go_wp2_with fail
       refine ⟨⟨j+1,HJ.out,rfl,fun y hy z hz=>?_,trivial⟩,?_⟩
       ·rcases Nat.lt_or_ge y j with h1|h1
        ·exact HJ2.out y h1 z hz
        ·obtain rfl:y=j:=by omega
         exact HK3.out z hz
       ·show 8 - ((j:Int)+1).toNat<8 - (j:Int).toNat
        have:=HJ.out
        omega
    ·obtain rfl:j=8:=by omega
     clear hlt hj
     rw [show ((8:Nat):Int)=8 from rfl]
     go_wp2_with fail
     refine ⟨⟨i+1,HI.out,rfl,fun x hx y z hy hz=>?_,trivial⟩,?_⟩
     ·rcases Nat.lt_or_ge x i with h1|h1
      ·exact HI1.out x h1 y z hy hz
      ·obtain rfl:x=i:=by omega
       exact HJ2.out y hy z hz
     ·show 8 - ((i:Int)+1).toNat<8 - (i:Int).toNat
      have:=HI.out
      omega
  ·obtain rfl:i=8:=by omega
   clear hlt hi
   rw [show ((8:Nat):Int)=8 from rfl]
   go_wp2_with fail
   go_ret
   refine ⟨?_,rfl⟩
   have:r=true:=HR.out.2 (fun x y z hx hy hz=>HI1.out x hx y z hy hz)
   rw [this]
   rfl
theorem tellR (w0:World) (b:Nat):Tell 51 b w0 (JR w0 b) where
 enters:=fun args W=>by kernel_rfl
 alloc:=fun l W o ⟨v,h1,h2,h3,h4⟩=>⟨v,h1.alloc o,h2.alloc o,h3.alloc h3.size o,h4⟩
 bel:=fun l W ⟨v,h1,h2,h3,h4⟩=>h3
 call:=by
  rintro l r W hl r0 r1 ⟨v,hA,hown,hB,hb⟩
  obtain ⟨c0,f0⟩:=hA.one
  obtain ⟨i0,hi,hz0,hz1,hz2⟩:=info_parts Tryz.info3
  have hlt:=hA.lt
  have news:∀ j u,([Value.int .i64 r]:List Value)[j]?=some u→(W.alloc (.cells #[.int .i64 r] 3)).cell? ((⟨W.heap.size,0,none⟩:Addr).add j)=some u:=fun j u hu=>by
   cases j with
   | zero=>simp at hu;subst hu;simp [Addr.add,cell_of_one (At.new W (One (.int .i64 r) 3))]
   | succ j=>simp at hu
  have ones:∀ u∈([Value.int .i64 r]:List Value),u.oneCell'=true:=fun u hu=>by simp at hu;subst hu;rfl
  have FIN:Hid (∀ v' w2,w2.ownsRow w0.heap.size 3 1 v' (l.length+1) (iCells l++[.int .i64 r])→(W.alloc (.cells #[.int .i64 r] 3)).grownBy w2 v.ownBlock→At w2 b (One v 55)∧(JR w0 b (l++[r]) (w2.setCell ⟨b,0,none⟩ v')∧KeepT W (w2.setCell ⟨b,0,none⟩ v'))):=fun v' w2 h1 h2=>by
   have hA2:At w2 b (One v 55):=(hA.alloc _).grown h2 (own_ne hown hA (by decide))
   refine ⟨hA2,⟨v',hA2.setOne v',?_,(((hB.alloc hB.size _).grown h2 (by simp only [World.size_alloc];have:=hB.size;omega) (fun k hk=>(hown.lt k hk).1)).setCell hb v'),hb⟩,?_⟩
   ·have:=own_set h1 hA2 (by decide) v'
    simpa [iCells] using this
   ·exact ((keepT_alloc W _).trans (keepT_grown (hown.alloc _) h2 (by decide))).trans (keepT_set hA2 v')
  have HO:Hid (W.ownsRow w0.heap.size 3 1 v l.length (iCells l)):=hown
  have hbase:w0.heap.size≤(W.alloc (.cells #[.int .i64 r] 3)).heap.size:=by simp only [World.size_alloc];have:=hB.size;omega
  clear hown hA hB
  go_enter Tryz.func51,Tryz.ntmps51
  go_wp2_with (at_builtin;refine wpList_append_own _ rfl _ _ 55 rfl w0.heap.size 3 i0 (.int .i64 0) 1 8 Tryz.underlying55 hi hz0 hz1 hz2 rfl (by decide) _ l.length _ rfl (HO.out.alloc _) ⟨W.heap.size,0,none⟩ 1 1 [.int .i64 r] rfl rfl news ones (by unfold maxLen;omega) (by omega) hbase ?_;intro v' w2 ho hg hn;obtain ⟨gg,cc,hvv⟩:=own_is ho (by omega);subst hvv;obtain ⟨hA2,hf⟩:=FIN.out _ w2 ho hg;obtain ⟨c2,f2⟩:=hA2.one)
  go_end0
  exact ⟨rfl,hf.1,hf.2⟩
theorem Regions_yes (c:Ch) (f:Fv) (w:World) (hc:Ok c) (h:TyAt w f c.ty):Calls Tryz.prog 22 #[f.v] w fun e w'=>(∃ v,e=.returned v∧w'.ownsRow w.heap.size 3 1 v c.regs.length (iCells c.regs))∧Below w.heap.size w w':=by
 have CS:Hid (Calls Tryz.prog 48 #[f.v] (w.alloc f.o) fun e w'=>e=.returned (.bool true)∧Below (w.alloc f.o).heap.size (w.alloc f.o) w'):=by
  have:=some_any c.ty f (w.alloc f.o) (h.bel (belA bR))
  rw [hc.is] at this
  exact this
 have CE:Hid (∀ W,Below w.heap.size w W→Calls Tryz.prog 50 #[f.v,fnB 51 W.heap.size] (W.alloc (One (.slice none 0 0) 55)) fun e w'=>e=.returned (.tuple #[])∧JR w W.heap.size c.regs w'):=fun W hW=>by
  have:=each_any (tellR w W.heap.size) c f [] (W.alloc (One (.slice none 0 0) 55)) hc.ok (by have:=hc.deep;simp;omega) h ⟨_,At.new _ _,World.ownsRow_nil _ _ _ _,belA hW,hW.size⟩
  exact this
 have A0:At (w.alloc f.o) w.heap.size f.o:=At.new _ _
 obtain ⟨k,m,r,s,a,n,cap⟩:=f
 show Calls Tryz.prog 22 #[tyV k m r s a n cap] w _
 clear h
 go_enter Tryz.func22,Tryz.ntmps22
 go_wp2_with (first
  | (go_at_call 48;refine CS.out.mono ?_;rintro e w1 ⟨rfl,hb1⟩;have A1:=A0.below hb1;obtain ⟨hlt,p0,p1,p2,p3,p4⟩:=A1.ty)
  | (go_at_call 50;refine (CE.out w1 (below1 hb1)).mono ?_;rintro e w2 ⟨rfl,v,hv1,hv2,hv3,hv4⟩;obtain ⟨aa,cc,hvv⟩:=own_sl hv2;subst hvv;obtain ⟨c1,f1⟩:=hv1.one))
 go_ret
 exact ⟨⟨_,rfl,hv2⟩,hv3⟩
theorem chainsP_ex {n:Nat}:∀ (fs:List Ty),(∀ t∈fs,PlainT n t)→∃ cs:List Ch,fs=cs.map Ch.ty∧∀ c∈cs,c.ok n∧c.depth≤48
 | [],_=>⟨[],rfl,fun c h=>by simp at h⟩
 | t::fs,h=>by
  obtain ⟨cs,rfl,h2⟩:=chainsP_ex fs (fun u hu=>h u (List.mem_cons_of_mem _ hu))
  obtain ⟨c,rfl,h3,h4,-⟩:=h t (List.mem_cons_self ..)
  refine ⟨c::cs,rfl,fun d hd=>?_⟩
  rcases List.mem_cons.1 hd with rfl|hd
  ·exact ⟨h3,h4⟩
  ·exact h2 d hd
theorem chainsM_ex {n:Nat}:∀ (fs:List Ty),(∀ t∈fs,mayB n 48 t=true)→∃ cs:List Ch,fs=cs.map Ch.ty∧∀ c∈cs,c.ok n∧c.depth≤48
 | [],_=>⟨[],rfl,fun c h=>by simp at h⟩
 | t::fs,h=>by
  obtain ⟨cs,rfl,h2⟩:=chainsM_ex fs (fun u hu=>h u (List.mem_cons_of_mem _ hu))
  obtain ⟨c,rfl,h3,h4⟩:=mayB_ch (h t (List.mem_cons_self ..))
  refine ⟨c::cs,rfl,fun d hd=>?_⟩
  rcases List.mem_cons.1 hd with rfl|hd
  ·exact ⟨h3,h4⟩
  ·exact h2 d hd
theorem SC.bel {w W:World} {a:Option Addr} {n cap:Nat} {so:Bool} (h:SC w a n cap so) (hW:Below w.heap.size w W):SC W a n cap so:=⟨fun W' hW'=>h.call W' (jB hW hW'),h.le⟩
def mayL (n:Nat) (so:Bool) (ts:List Ty):Bool:=so && ts.all (mayB n 48)
theorem mayL_iff {n:Nat} {so:Bool} {ts:List Ty}:mayL n so ts=true↔so=true∧∀ t∈ts,mayB n 48 t=true:=by
 unfold mayL
 rw [Bool.and_eq_true,List.all_eq_true]
theorem cx_of {w:World} {a la:Option Addr} {n cap ln lcap:Nat} {ss:List (List Ty)} {ts:List Ty} (h:StAt w a n cap ss) (hl:LcAt w la ln lcap ts) {b1 b2 b3:Nat→Bool} (hb:Flt ss b1 b2 b3) :
  ∃ fc cl,Cx w a la n cap ln lcap (mayL n (decide ((stRes n b1 b2 b3).2=0)) ts) fc cl∧(mayL n (decide ((stRes n b1 b2 b3).2=0)) ts=true→ts=cl.map Ch.ty∧(∀ c∈cl,c.depth≤48)∧(∀ j,j<n→fld ss j=(fc j).map Ch.ty∧∀ c∈fc j,c.depth≤48)):=by
 have hS:=sc_of h hb
 obtain ⟨ok,hok⟩:∃ ok,ok=mayL n (decide ((stRes n b1 b2 b3).2=0)) ts:=⟨_,rfl⟩
 rw [← hok]
 have hall:∀ W,Below w.heap.size w W→Calls Tryz.prog 220 #[.slice a n cap,.slice la ln lcap] W fun e w'=>e=.returned (.bool ok)∧Below W.heap.size W w':=fun W hW=>all_any (hS.bel hW) (hl.bel hW) ok (by rw [hok];exact mayL_iff)
 cases hk:ok with
 | false =>
  refine ⟨fun _=>[],[],⟨fun W hW=>by have:=hall W hW;rw [hk] at this;exact this,(fun e=>by cases e),(fun e=>by cases e)⟩,(fun e=>by cases e)⟩
 | true =>
  rw [hk] at hok
  obtain ⟨h1,h2⟩:=mayL_iff.1 hok.symm
  rw [decide_eq_true_iff] at h1
  obtain ⟨g1,g2,g3,g4,-⟩:=stRes_ok h1
  have hlen:=h.len
  have hF:Fine ss:=hb.fine (fun j hj=>g2 j (by omega))
  have hfc:∀ j,∃ cs:List Ch,j<n→fld ss j=cs.map Ch.ty∧cs.length≤8∧∀ c∈cs,c.ok n∧c.depth≤48:=fun j=>by
   by_cases hj:j<n
   ·obtain ⟨fs,hfs⟩:∃ fs,ss[j]?=some fs:=⟨_,List.getElem?_eq_getElem (by omega)⟩
    obtain ⟨k1,k2,k3⟩:=hF j fs hfs
    rw [← hlen] at k3
    obtain ⟨cs,e1,e2⟩:=chainsP_ex fs k3
    refine ⟨cs,fun _=>⟨by rw [fld_of hfs];exact e1,?_,e2⟩⟩
    rw [e1,List.length_map] at k2
    exact k2
   ·exact ⟨[],fun h=>absurd h hj⟩
  obtain ⟨fc,hfc⟩:∃ fc:Nat→List Ch,∀ j,j<n→fld ss j=(fc j).map Ch.ty∧(fc j).length≤8∧∀ c∈fc j,c.ok n∧c.depth≤48:=⟨fun j=>Classical.choose (hfc j),fun j=>Classical.choose_spec (hfc j)⟩
  obtain ⟨cl,e1,e2⟩:=chainsM_ex ts h2
  refine ⟨fc,cl,⟨fun W hW=>by have:=hall W hW;rw [hk] at this;exact this,fun _=>⟨fun j hj=>?_,fun j hj c hc=>((hfc j hj).2.2 c hc).1,by omega,fun j hj=>(hfc j hj).2.1⟩,fun _=>⟨by rw [← e1];exact hl,fun c hc=>(e2 c hc).1⟩⟩,fun _=>⟨e1,fun c hc=>(e2 c hc).2,fun j hj=>⟨(hfc j hj).1,fun c hc=>((hfc j hj).2.2 c hc).2⟩⟩⟩
  obtain ⟨fs,hfs⟩:∃ fs,ss[j]?=some fs:=⟨_,List.getElem?_eq_getElem (by omega)⟩
  obtain ⟨g,off,fa,fcap,e3,e4,e5,e6⟩:=h.one hfs
  have e7:=(hfc j hj).1
  rw [fld_of hfs] at e7
  refine ⟨g,off,fa,fcap,e3,e4,?_,by rw [← e7];exact e6⟩
  rw [e7,List.length_map] at e5
  exact e5
end Go.Proofs.YtmjenlogbkbgnaaGreatDoor
