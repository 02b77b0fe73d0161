import Derived.Test.YtdlggpcakaofoaaGreatA01
import Derived.Laws.AppendOwnNone
namespace Go.Proofs.YtdlggpcakaofoaaGreat
open Go.RowKit Go.Shelf
set_option linter.unusedVariables false
set_option linter.unusedSimpArgs false
set_option maxRecDepth 100000
set_option maxHeartbeats 8000000
theorem Tryz.results63:Tryz.f63.results=#[.cell 6 65,.tmp 7]:=rfl
theorem results_gen {fn:Func} {i j t:Nat} (h:fn.results=#[.cell i t,.tmp j]) {tmps:Array Value} {W:World} {b4:Nat} {u v:Value} (ht:tmps.getD i undef=.pointer (some ⟨b4,0,none⟩)) (hv:tmps.getD j undef=v) (hl:(loadVar t ⟨b4,0,none⟩).run Tryz.prog W=.ok u W):(results fn tmps).run Tryz.prog W=.ok (.tuple #[u,v]) W:=by
 have ht2:tmps[i]?.getD undef=.pointer (some ⟨b4,0,none⟩):=by rw [← ht];simp
 have hv2:tmps[j]?.getD undef=v:=by rw [← hv];simp
 simp only [results,h]
 simp [ht2,hv2,asAddr,hl]
theorem results_pt2 {fn:Func} {i j:Nat} (h:fn.results=#[.cell i 65,.tmp j]) {tmps:Array Value} {W:World} {b4:Nat} {p:Pv} {v:Value} (ht:tmps.getD i undef=.pointer (some ⟨b4,0,none⟩)) (hv:tmps.getD j undef=v) (hC:W.rangeAt b4 0 (pC p)):(results fn tmps).run Tryz.prog W=.ok (.tuple #[.agg (pC p).toArray,v]) W :=
 results_gen h ht hv (run_loadVar_mid (P:=Tryz.prog) W b4 0 65 (pC p) _ hC Tryz.underlying65 rfl (by kernel_rfl))
theorem graphOf_no {w:World} {a ua:Option Addr} {n cap un ucap:Nat} {mn:Int} (fn:Int) (mb:Bool) (h:∀ W,Below w.heap.size w W→Calls Tryz.prog 32 #[uV a n cap ua un ucap mn] W fun e w'=>e=.returned (.bool mb)∧Below W.heap.size W w') (hn:fn<0∨(un:Int)≤fn∨mb=false) :
  Calls Tryz.prog 66 #[uV a n cap ua un ucap mn,.int .i64 fn] w fun e w'=>e=.returned (.tuple #[.agg #[.string ByteArray.empty,.int .i64 0,.slice none 0 0,.int .i64 0,.slice none 0 0,.slice none 0 0,.slice none 0 0],.int .i64 2])∧Below w.heap.size w w':=by
 obtain ⟨V,hV⟩:∃ V,V=(w.alloc (uO a n cap ua un ucap mn)).alloc (.cells #[.string ByteArray.empty,.int .i64 0,.slice none 0 0,.int .i64 0,.slice none 0 0,.slice none 0 0,.slice none 0 0] 70):=⟨_,rfl⟩
 have hB:Below w.heap.size w V:=by rw [hV];exact belA (belA bR)
 have A2:Hid (At V w.heap.size (uO a n cap ua un ucap mn)):=jH (by rw [hV];exact (At.new _ _).alloc _)
 have A4:Hid (At V (w.heap.size+1) (.cells #[.string ByteArray.empty,.int .i64 0,.slice none 0 0,.int .i64 0,.slice none 0 0,.slice none 0 0,.slice none 0 0] 70)):=jH (by rw [hV];exact at_snd _ _ _)
 have CM:Hid (Calls Tryz.prog 32 #[uV a n cap ua un ucap mn] V fun e w'=>e=.returned (.bool mb)∧Below V.heap.size V w'):=jH (h V hB)
 have HB:=jH hB
 have HV:=jH hV
 clear h hB hV
 by_cases h0:fn<0
 ·clear hn CM
  go_enter Tryz.func66,Tryz.ntmps66
  go_upto_region 1 with fail
  change Code.wp _ _ _ _ ((w.alloc (uO a n cap ua un ucap mn)).alloc (.cells #[.string ByteArray.empty,.int .i64 0,.slice none 0 0,.int .i64 0,.slice none 0 0,.slice none 0 0,.slice none 0 0] 70))
  rw [← HV.out]
  clear HV
  obtain ⟨u0,u1,u2⟩:=A2.out.un
  go_wp2_with ((with_reducible show wpList _ _ _ (Oper.mk none (Op.store 70 _ _) _ _ _ none::_) _ _);refine wpl_store70 (w.heap.size+1) ByteArray.empty 0 none 0 0 0 none 0 0 none 0 0 none 0 0 (fun j hj=>(by have hA:=A4.out;unfold At at hA;refine ⟨?_,frozen_of_row _ _ _ _ _ hA⟩;rw [cell_of_row _ _ _ _ _ _ hA,Nat.zero_add];have:j<7:=hj;simp [this])) A4.out.lt rfl rfl ?_;intro w9 h9 hb9;have H9:=jH h9;have HB9:=jH hb9;clear h9 hb9)
  exact bodyPost_ret (results_g7 (v:=.int .i64 2) Tryz.results66 rfl rfl H9.out) rfl ⟨rfl,HB.out.grown HB9.out (by have:=HB.out.size;omega) (fun k e=>by cases e;omega)⟩
 ·by_cases h1:(un:Int)≤fn
  ·have f0:¬ fn<0:=h0
   clear hn CM
   go_enter Tryz.func66,Tryz.ntmps66
   go_upto_region 1 with fail
   change Code.wp _ _ _ _ ((w.alloc (uO a n cap ua un ucap mn)).alloc (.cells #[.string ByteArray.empty,.int .i64 0,.slice none 0 0,.int .i64 0,.slice none 0 0,.slice none 0 0,.slice none 0 0] 70))
   rw [← HV.out]
   clear HV
   obtain ⟨u0,u1,u2⟩:=A2.out.un
   go_wp2_with ((with_reducible show wpList _ _ _ (Oper.mk none (Op.store 70 _ _) _ _ _ none::_) _ _);refine wpl_store70 (w.heap.size+1) ByteArray.empty 0 none 0 0 0 none 0 0 none 0 0 none 0 0 (fun j hj=>(by have hA:=A4.out;unfold At at hA;refine ⟨?_,frozen_of_row _ _ _ _ _ hA⟩;rw [cell_of_row _ _ _ _ _ _ hA,Nat.zero_add];have:j<7:=hj;simp [this])) A4.out.lt rfl rfl ?_;intro w9 h9 hb9;have H9:=jH h9;have HB9:=jH hb9;clear h9 hb9)
   exact bodyPost_ret (results_g7 (v:=.int .i64 2) Tryz.results66 rfl rfl H9.out) rfl ⟨rfl,HB.out.grown HB9.out (by have:=HB.out.size;omega) (fun k e=>by cases e;omega)⟩
  ·have f0:¬ fn<0:=h0
   have f1:¬ (un:Int)≤fn:=h1
   obtain rfl:mb=false:=by rcases hn with h|h|h <;> first|exact absurd h h0|exact absurd h h1|exact h
   clear hn
   go_enter Tryz.func66,Tryz.ntmps66
   go_upto_region 1 with fail
   change Code.wp _ _ _ _ ((w.alloc (uO a n cap ua un ucap mn)).alloc (.cells #[.string ByteArray.empty,.int .i64 0,.slice none 0 0,.int .i64 0,.slice none 0 0,.slice none 0 0,.slice none 0 0] 70))
   rw [← HV.out]
   clear HV
   obtain ⟨u0,u1,u2⟩:=A2.out.un
   go_wp2_with (first
    | (go_at_call 32;refine CM.out.mono ?_;rintro e w1 ⟨rfl,hb1⟩;have HB1:=jH hb1;have HA4:=jH (A4.out.below hb1);clear hb1 u0 u1 u2)
    | ((with_reducible show wpList _ _ _ (Oper.mk none (Op.store 70 _ _) _ _ _ none::_) _ _);refine wpl_store70 (w.heap.size+1) ByteArray.empty 0 none 0 0 0 none 0 0 none 0 0 none 0 0 (fun j hj=>(by have hA:=HA4.out;unfold At at hA;refine ⟨?_,frozen_of_row _ _ _ _ _ hA⟩;rw [cell_of_row _ _ _ _ _ _ hA,Nat.zero_add];have:j<7:=hj;simp [this])) HA4.out.lt rfl rfl ?_;intro w9 h9 hb9;have H9:=jH h9;have HB9:=jH hb9;clear h9 hb9))
   exact bodyPost_ret (results_g7 (v:=.int .i64 2) Tryz.results66 rfl rfl H9.out) rfl ⟨rfl,(jB HB.out HB1.out).grown HB9.out (by have:=HB.out.size;have:=HB1.out.size;omega) (fun k e=>by cases e;omega)⟩
abbrev zPt:Obj:=.cells #[.int .u8 0,.int .i64 0,.slice none 0 0,.int .u8 0,.int .i64 0,.int .i64 0,.slice none 0 0,.int .u8 0,.int .i64 0,.int .i64 0,.slice none 0 0,.slice none 0 0,.string ByteArray.empty,.int .i64 0,.slice none 0 0,.bool false,.int .i64 0,.int .i64 0,.int .i64 0,.int .i64 0,.int .i64 0] 65
theorem pointOf_yes {w:World} {a ua:Option Addr} {n cap un ucap:Nat} {mn:Int} {gs:List Grp} {j:Nat} {g:Grp} {cl:List Ch} {fc:Nat→List Ch} (h:UG1 w a ua n cap un ucap mn gs j g cl fc) {q:Nat} {p:Pnt} (hp:g.pt[q]?=some p) :
  ∃ pv:Pv,PntAt w pv p∧∀ W,Below w.heap.size w W→Calls Tryz.prog 63 #[uV a n cap ua un ucap mn,.int .i64 (j:Int),.int .i64 (q:Int)] W fun e w'=>e=.returned (.tuple #[.agg (pC pv).toArray,.int .i64 0])∧Below W.heap.size W w':=by
 obtain ⟨ug,uo,nm,oa,on,oc,pa,la,ln,lc,na,nn,nc,qa,qn,qc,ea,hC7,hLc,hPs⟩:=h.rg.ex
 obtain ⟨pg,po,pv,e1,hpg,hrn,hpv⟩:=hPs.at_ q p hp
 have hqq:qn=g.pt.length:=hPs.len
 have hql:q<qn:=by rw [hqq];exact (List.getElem?_eq_some_iff.1 hp).1
 have hq5:qn≤1024:=by have:=h.rg.ptn;omega
 refine ⟨pv,hpv,fun W hW=>?_⟩
 obtain ⟨lv,hlv⟩:∃ lv,lv=g.lv:=⟨_,rfl⟩
 rw [← hlv] at hC7
 subst e1
 obtain ⟨V,hV⟩:∃ V,V=(W.alloc (uO a n cap ua un ucap mn)).alloc zPt:=⟨_,rfl⟩
 have hB:Below W.heap.size W V:=by rw [hV];exact belA (belA bR)
 have A2:Hid (At V W.heap.size (uO a n cap ua un ucap mn)):=jH (by rw [hV];exact (At.new _ _).alloc _)
 have A6:Hid (At V (W.heap.size+1) zPt):=jH (by rw [hV];exact at_snd _ _ _)
 have hBV:=jB hW hB
 have CG:=jH (graphOf_yes (h.bel hBV) ea (hC7.bel hBV))
 have HRN:=jH (rng_bel hpg hrn hBV)
 have hpgV:pg<V.heap.size:=Nat.lt_of_lt_of_le hpg hBV.size
 have HB:=jH hB
 have HV:=jH hV
 have q0:(0:Int)≤(q:Int):=by omega
 have q1:(q:Int)<(qn:Int):=by omega
 have q2:¬ (qn:Int)≤(q:Int):=by omega
 have q3:(qn:Int)≤1024:=by omega
 clear h hp hC7 hLc hPs hrn hpv hqq hql hq5 hB hV ea hlv hBV hW hpg
 go_enter Tryz.func63,Tryz.ntmps63
 go_upto_region 1 with fail
 change Code.wp _ _ _ _ ((W.alloc (uO a n cap ua un ucap mn)).alloc zPt)
 rw [← HV.out]
 clear HV
 obtain ⟨u0,u1,u2⟩:=A2.out.un
 go_upto_region 2 with (first
  | (go_at_call 66;refine CG.out.mono ?_;rintro e w1 ⟨rfl,hb1⟩;have HB1:=jH hb1;clear hb1 u0 u1 u2)
  | ((with_reducible show wpList _ _ _ (Oper.mk none (Op.store 70 _ _) _ _ _ none::_) _ _);refine wpl_store70 w1.heap.size nm lv oa on oc pa la ln lc na nn nc (some ⟨pg,po,none⟩) qn qc (there_new w1 _ _ 7 rfl) (by simp) rfl rfl ?_;intro U h9 hb9;have H9:=jH h9;have HB9:=jH hb9;clear h9 hb9))
 have hb2:=jH (belBut (belA HB1.out) HB9.out HB1.out.size (by have:=HB1.out.size;simp;omega))
 clear HB9 HB1 CG
 obtain ⟨b8,hb8⟩:∃ b8,b8=w1.heap.size:=⟨_,rfl⟩
 rw [← hb8] at H9 ⊢
 clear hb8
 obtain ⟨e0,e1,e2,e3,e4,e5,e6⟩:=H9.out.cells
 simp only [Nat.zero_add] at e0 e1 e2 e3 e4 e5 e6
 have hl8:=H9.out.1
 have HA6:=jH (A6.out.below hb2.out)
 have HRU:=jH (rng_bel hpgV HRN.out hb2.out)
 have hpgU:pg<U.heap.size:=Nat.lt_of_lt_of_le hpgV hb2.out.size
 go_wp2_with (first
  | ((with_reducible show wpList _ _ _ (Oper.mk (some _) (Op.load 65 _) _ _ _ none::_) _ _);refine wpl_load64 pg (po+q*21) (pC pv) rfl rfl HRU.out Tryz.underlying65 rfl ?_)
  | ((with_reducible show wpList _ _ _ (Oper.mk none (Op.store 65 _ _) _ _ _ none::_) _ _);refine wpl_store64 (W.heap.size+1) (fun j hj=>(by have hA:=HA6.out;unfold At at hA;refine ⟨?_,frozen_of_row _ _ _ _ _ hA⟩;rw [cell_of_row _ _ _ _ _ _ hA,Nat.zero_add];have:j<21:=hj;simp [this])) HA6.out.lt pv rfl rfl ?_;intro w9 h9 hl9 hb9;have H99:=jH h9;have HB99:=jH hb9;clear h9 hb9 hl9))
 exact bodyPost_ret (results_pt2 (v:=.int .i64 0) Tryz.results63 rfl rfl H99.out) rfl ⟨rfl,(jB HB.out hb2.out).grown HB99.out (by have:=HB.out.size;have:=hb2.out.size;omega) (fun k e=>by cases e;omega)⟩
abbrev zPv:Pv:=⟨0,⟨0,none,0,0⟩,⟨0,0,⟨0,none,0,0⟩⟩,⟨0,0,⟨0,none,0,0⟩⟩,none,0,0,ByteArray.empty,⟨0,none,0,0⟩,false,0,0,0,0,0⟩
theorem pointOf_no2 {w:World} {a ua:Option Addr} {n cap un ucap:Nat} {mn:Int} {gs:List Grp} {j:Nat} {g:Grp} {cl:List Ch} {fc:Nat→List Ch} (h:UG1 w a ua n cap un ucap mn gs j g cl fc) (q:Int) (hq:q<0∨(g.pt.length:Int)≤q) (W:World) (hW:Below w.heap.size w W) :
  Calls Tryz.prog 63 #[uV a n cap ua un ucap mn,.int .i64 (j:Int),.int .i64 q] W fun e w'=>e=.returned (.tuple #[.agg (pC zPv).toArray,.int .i64 2])∧Below W.heap.size W w':=by
 obtain ⟨ug,uo,nm,oa,on,oc,pa,la,ln,lc,na,nn,nc,qa,qn,qc,ea,hC7,hLc,hPs⟩:=h.rg.ex
 have hqq:qn=g.pt.length:=hPs.len
 have hq5:qn≤1024:=by have:=h.rg.ptn;omega
 rw [← hqq] at hq
 obtain ⟨lv,hlv⟩:∃ lv,lv=g.lv:=⟨_,rfl⟩
 rw [← hlv] at hC7
 obtain ⟨V,hV⟩:∃ V,V=(W.alloc (uO a n cap ua un ucap mn)).alloc zPt:=⟨_,rfl⟩
 have hB:Below W.heap.size W V:=by rw [hV];exact belA (belA bR)
 have A2:Hid (At V W.heap.size (uO a n cap ua un ucap mn)):=jH (by rw [hV];exact (At.new _ _).alloc _)
 have A6:Hid (At V (W.heap.size+1) zPt):=jH (by rw [hV];exact at_snd _ _ _)
 have hBV:=jB hW hB
 have CG:=jH (graphOf_yes (h.bel hBV) ea (hC7.bel hBV))
 have HB:=jH hB
 have HV:=jH hV
 have q3:(qn:Int)≤1024:=by omega
 clear h hC7 hLc hPs hqq hq5 hB hV ea hlv hBV hW
 go_enter Tryz.func63,Tryz.ntmps63
 go_upto_region 1 with fail
 change Code.wp _ _ _ _ ((W.alloc (uO a n cap ua un ucap mn)).alloc zPt)
 rw [← HV.out]
 clear HV
 obtain ⟨u0,u1,u2⟩:=A2.out.un
 go_upto_region 2 with (first
  | (go_at_call 66;refine CG.out.mono ?_;rintro e w1 ⟨rfl,hb1⟩;have HB1:=jH hb1;clear hb1 u0 u1 u2)
  | ((with_reducible show wpList _ _ _ (Oper.mk none (Op.store 70 _ _) _ _ _ none::_) _ _);refine wpl_store70 w1.heap.size nm lv oa on oc pa la ln lc na nn nc qa qn qc (there_new w1 _ _ 7 rfl) (by simp) rfl rfl ?_;intro U h9 hb9;have H9:=jH h9;have HB9:=jH hb9;clear h9 hb9))
 have hb2:=jH (belBut (belA HB1.out) HB9.out HB1.out.size (by have:=HB1.out.size;simp;omega))
 clear HB9 HB1 CG
 obtain ⟨b8,hb8⟩:∃ b8,b8=w1.heap.size:=⟨_,rfl⟩
 rw [← hb8] at H9 ⊢
 clear hb8
 obtain ⟨e0,e1,e2,e3,e4,e5,e6⟩:=H9.out.cells
 simp only [Nat.zero_add] at e0 e1 e2 e3 e4 e5 e6
 have hl8:=H9.out.1
 have HA6:=jH (A6.out.below hb2.out)
 by_cases h0:q<0
 ·clear hq
  go_wp2_with ((with_reducible show wpList _ _ _ (Oper.mk none (Op.store 65 _ _) _ _ _ none::_) _ _);refine wpl_store64 (W.heap.size+1) (fun j hj=>(by have hA:=HA6.out;unfold At at hA;refine ⟨?_,frozen_of_row _ _ _ _ _ hA⟩;rw [cell_of_row _ _ _ _ _ _ hA,Nat.zero_add];have:j<21:=hj;simp [this])) HA6.out.lt zPv rfl rfl ?_;intro w9 h9 hl9 hb9;have H99:=jH h9;have HB99:=jH hb9;clear h9 hb9 hl9)
  exact bodyPost_ret (results_pt2 (v:=.int .i64 2) Tryz.results63 rfl rfl H99.out) rfl ⟨rfl,(jB HB.out hb2.out).grown HB99.out (by have:=HB.out.size;have:=hb2.out.size;omega) (fun k e=>by cases e;omega)⟩
 ·have h1:(qn:Int)≤q:=by rcases hq with h|h <;> omega
  have h2:¬ q<0:=h0
  clear hq
  go_wp2_with ((with_reducible show wpList _ _ _ (Oper.mk none (Op.store 65 _ _) _ _ _ none::_) _ _);refine wpl_store64 (W.heap.size+1) (fun j hj=>(by have hA:=HA6.out;unfold At at hA;refine ⟨?_,frozen_of_row _ _ _ _ _ hA⟩;rw [cell_of_row _ _ _ _ _ _ hA,Nat.zero_add];have:j<21:=hj;simp [this])) HA6.out.lt zPv rfl rfl ?_;intro w9 h9 hl9 hb9;have H99:=jH h9;have HB99:=jH hb9;clear h9 hb9 hl9)
  exact bodyPost_ret (results_pt2 (v:=.int .i64 2) Tryz.results63 rfl rfl H99.out) rfl ⟨rfl,(jB HB.out hb2.out).grown HB99.out (by have:=HB.out.size;have:=hb2.out.size;omega) (fun k e=>by cases e;omega)⟩
theorem pointOf_no1 {w:World} {a ua:Option Addr} {n cap un ucap:Nat} {mn:Int} (fn q:Int) (mb:Bool) (h:∀ W,Below w.heap.size w W→Calls Tryz.prog 32 #[uV a n cap ua un ucap mn] W fun e w'=>e=.returned (.bool mb)∧Below W.heap.size W w') (hn:fn<0∨(un:Int)≤fn∨mb=false) (W:World) (hW:Below w.heap.size w W) :
  Calls Tryz.prog 63 #[uV a n cap ua un ucap mn,.int .i64 fn,.int .i64 q] W fun e w'=>e=.returned (.tuple #[.agg (pC zPv).toArray,.int .i64 2])∧Below W.heap.size W w':=by
 obtain ⟨V,hV⟩:∃ V,V=(W.alloc (uO a n cap ua un ucap mn)).alloc zPt:=⟨_,rfl⟩
 have hB:Below W.heap.size W V:=by rw [hV];exact belA (belA bR)
 have A2:Hid (At V W.heap.size (uO a n cap ua un ucap mn)):=jH (by rw [hV];exact (At.new _ _).alloc _)
 have A6:Hid (At V (W.heap.size+1) zPt):=jH (by rw [hV];exact at_snd _ _ _)
 have hBV:=jB hW hB
 have CG:=jH (graphOf_no (w:=V) fn mb (fun X hX=>h X (jB hBV hX)) hn)
 have HB:=jH hB
 have HV:=jH hV
 clear h hn hB hV hBV hW
 go_enter Tryz.func63,Tryz.ntmps63
 go_upto_region 1 with fail
 change Code.wp _ _ _ _ ((W.alloc (uO a n cap ua un ucap mn)).alloc zPt)
 rw [← HV.out]
 clear HV
 obtain ⟨u0,u1,u2⟩:=A2.out.un
 go_upto_region 2 with (first
  | (go_at_call 66;refine CG.out.mono ?_;rintro e w1 ⟨rfl,hb1⟩;have HB1:=jH hb1;clear hb1 u0 u1 u2)
  | ((with_reducible show wpList _ _ _ (Oper.mk none (Op.store 70 _ _) _ _ _ none::_) _ _);refine wpl_store70 w1.heap.size ByteArray.empty 0 none 0 0 0 none 0 0 none 0 0 none 0 0 (there_new w1 _ _ 7 rfl) (by simp) rfl rfl ?_;intro U h9 hb9;have H9:=jH h9;have HB9:=jH hb9;clear h9 hb9))
 have hb2:=jH (belBut (belA HB1.out) HB9.out HB1.out.size (by have:=HB1.out.size;simp;omega))
 clear HB9 HB1 CG
 obtain ⟨b8,hb8⟩:∃ b8,b8=w1.heap.size:=⟨_,rfl⟩
 rw [← hb8] at H9 ⊢
 clear hb8
 obtain ⟨e0,e1,e2,e3,e4,e5,e6⟩:=H9.out.cells
 simp only [Nat.zero_add] at e0 e1 e2 e3 e4 e5 e6
 have hl8:=H9.out.1
 have HA6:=jH (A6.out.below hb2.out)
 go_wp2_with ((with_reducible show wpList _ _ _ (Oper.mk none (Op.store 65 _ _) _ _ _ none::_) _ _);refine wpl_store64 (W.heap.size+1) (fun j hj=>(by have hA:=HA6.out;unfold At at hA;refine ⟨?_,frozen_of_row _ _ _ _ _ hA⟩;rw [cell_of_row _ _ _ _ _ _ hA,Nat.zero_add];have:j<21:=hj;simp [this])) HA6.out.lt zPv rfl rfl ?_;intro w9 h9 hl9 hb9;have H99:=jH h9;have HB99:=jH hb9;clear h9 hb9 hl9)
 exact bodyPost_ret (results_pt2 (v:=.int .i64 2) Tryz.results63 rfl rfl H99.out) rfl ⟨rfl,(jB HB.out hb2.out).grown HB99.out (by have:=HB.out.size;have:=hb2.out.size;omega) (fun k e=>by cases e;omega)⟩
theorem Tryz.results65:Tryz.f65.results=#[.cell 2 28]:=rfl
theorem results_pl {fn:Func} {i:Nat} (h:fn.results=#[.cell i 28]) {tmps:Array Value} {W:World} {b4:Nat} {l:Int} {a:Option Addr} {n cap:Nat} (ht:tmps.getD i undef=.pointer (some ⟨b4,0,none⟩)) (hC:At W b4 (plO l a n cap)):(results fn tmps).run Tryz.prog W=.ok (plV l a n cap) W:=by
 have ht2:tmps[i]?.getD undef=.pointer (some ⟨b4,0,none⟩):=by rw [← ht];simp
 obtain ⟨e0,e1⟩:=hC.pl
 simp only [results,h]
 simp [go_sem,ht2,e0,e1]
theorem alike_sym:∀ (c d:Ch),alikeB c d=alikeB d c
 | .leaf k s,.leaf k' s'=>by simp only [alikeB];rw [decide_eq_decide.2 (eq_comm (a:=k) (b:=k')),decide_eq_decide.2 (eq_comm (a:=s) (b:=s'))]
 | .box c,.box d=>by simp only [alikeB];exact alike_sym c d
 | .ref m _ c,.ref m' _ d=>by simp only [alikeB];rw [decide_eq_decide.2 (eq_comm (a:=m) (b:=m')),alike_sym c d]
 | .leaf _ _,.box _=>rfl
 | .leaf _ _,.ref _ _ _=>rfl
 | .box _,.leaf _ _=>rfl
 | .box _,.ref _ _ _=>rfl
 | .ref _ _ _,.leaf _ _=>rfl
 | .ref _ _ _,.box _=>rfl
theorem alike_trans:∀ (c d e:Ch),alikeB c d=true→alikeB d e=true→alikeB c e=true
 | .leaf k s,.leaf k' s',.leaf k2 s2,h1,h2=>by
  simp only [alikeB,Bool.and_eq_true,decide_eq_true_eq] at h1 h2 ⊢
  exact ⟨h1.1.trans h2.1,h1.2.trans h2.2⟩
 | .box c,.box d,.box e,h1,h2=>alike_trans c d e h1 h2
 | .ref m _ c,.ref m' _ d,.ref m2 _ e,h1,h2=>by
  simp only [alikeB,Bool.and_eq_true,decide_eq_true_eq] at h1 h2 ⊢
  exact ⟨h1.1.trans h2.1,alike_trans c d e h1.2 h2.2⟩
 | .leaf _ _,.box _,_,h1,_=>by cases h1
 | .leaf _ _,.ref _ _ _,_,h1,_=>by cases h1
 | .box _,.leaf _ _,_,h1,_=>by cases h1
 | .box _,.ref _ _ _,_,h1,_=>by cases h1
 | .ref _ _ _,.leaf _ _,_,h1,_=>by cases h1
 | .ref _ _ _,.box _,_,h1,_=>by cases h1
 | .leaf _ _,.leaf _ _,.box _,_,h2=>by cases h2
 | .leaf _ _,.leaf _ _,.ref _ _ _,_,h2=>by cases h2
 | .box _,.box _,.leaf _ _,_,h2=>by cases h2
 | .box _,.box _,.ref _ _ _,_,h2=>by cases h2
 | .ref _ _ _,.ref _ _ _,.leaf _ _,_,h2=>by cases h2
 | .ref _ _ _,.ref _ _ _,.box _,_,h2=>by cases h2
theorem alike_turn (out:List Int→Int→Int) (c:Ch) (l:List Int):alikeB (turnC out l c) c=true:=by rw [alike_sym];exact turn_alike out c l
theorem ptB_parts {x:Sc} {p:Pnt} (h:x.ptB p=true):∃ os,x.opsT (opsOf p)=some os∧x.opB p (x.toW p) (x.frW p) os=true∧x.toB p=true∧x.frB p=true:=by
 unfold Sc.ptB at h
 simp only [Bool.and_eq_true] at h
 obtain ⟨⟨_,h1,h2⟩,h3⟩:=h
 split at h3
 ·rename_i os ho
  exact ⟨os,ho,h3,h1,h2⟩
 ·cases h3
theorem ptB_to {x:Sc} {p:Pnt} (h:x.ptB p=true) (ht:(fldO p.op).testBit 0=true):∃ c gs,x.way p.to=some (c,gs)∧x.toW p=some (c,gs):=by
 obtain ⟨os,_,_,h1,_⟩:=ptB_parts h
 unfold Sc.toB at h1
 rw [ht] at h1
 simp only [Bool.not_true,Bool.false_or] at h1
 cases hw:x.way p.to with
 | none=>rw [hw] at h1;cases h1
 | some y=>exact ⟨y.1,y.2,rfl,by unfold Sc.toW;rw [if_pos ht,hw]⟩
theorem ptB_borrow {x:Sc} {p:Pnt} (h:x.ptB p=true) (h4:p.op=4):∃ r c0 gs f gf,x.way p.to=some (.ref p.mu r c0,gs)∧x.way p.fr=some (f,gf)∧alikeB c0 f=true:=by
 obtain ⟨os,_,h2,_,h3⟩:=ptB_parts h
 have e0:(fldO p.op).testBit 0=true:=by rw [h4];rfl
 have e5:(fldO p.op).testBit 5=true:=by rw [h4];rfl
 obtain ⟨c,gs,hc,hc2⟩:=ptB_to h e0
 unfold Sc.frB at h3
 rw [e5] at h3
 simp only [Bool.not_true,Bool.false_or] at h3
 cases hw:x.way p.fr with
 | none=>rw [hw] at h3;cases h3
 | some y =>
  have hf2:x.frW p=some y:=by unfold Sc.frW;rw [if_pos e5,hw]
  unfold Sc.opB at h2
  rw [hc2,hf2] at h2
  dsimp only [Option.map_some,Option.getD_some] at h2
  rw [if_neg (by omega),if_neg (by omega),if_neg (by omega),if_pos h4] at h2
  split at h2
  ·rename_i m r c0
   simp only [Bool.and_eq_true,decide_eq_true_eq] at h2
   obtain ⟨⟨rfl,h5⟩,_⟩:=h2
   exact ⟨r,c0,gs,y.1,y.2,hc,rfl,h5⟩
  ·cases h2
theorem ptB_called {x:Sc} {p:Pnt} (h:x.ptB p=true) (h7:p.op=7):∃ c gs hd os,x.way p.to=some (c,gs)∧x.hs[p.fn.toNat]?=some hd∧alikeB ((hd.2[0]?).getD (.leaf 0 0)) c=true∧x.opsT p.args=some os∧alikeL ((hd.2.drop 1).take hd.1) os=true:=by
 obtain ⟨os,h1,h2,_,_⟩:=ptB_parts h
 have e0:(fldO p.op).testBit 0=true:=by rw [h7];rfl
 obtain ⟨c,gs,hc,hc2⟩:=ptB_to h e0
 have eo:opsOf p=p.args:=by
  unfold opsOf
  have e1:(fldO p.op).testBit 1=false:=by rw [h7];rfl
  have e2:(fldO p.op).testBit 2=false:=by rw [h7];rfl
  have e3:(fldO p.op).testBit 3=true:=by rw [h7];rfl
  rw [e1,e2,e3]
  simp
 rw [eo] at h1
 unfold Sc.opB at h2
 rw [hc2] at h2
 dsimp only [Option.map_some,Option.getD_some] at h2
 rw [if_neg (by omega),if_neg (by omega),if_neg (by omega),if_neg (by omega),if_neg (by omega),if_neg (by omega),if_pos h7] at h2
 rw [Bool.and_eq_true] at h2
 obtain ⟨_,h2⟩:=h2
 split at h2
 ·rename_i hd hh
  simp only [Bool.and_eq_true] at h2
  exact ⟨c,gs,hd,os,hc,hh,h2.1,h1,by simpa using h2.2⟩
 ·cases h2
theorem opsT_at {x:Sc}:∀ {l:List Opd} {os:List Ch},x.opsT l=some os→os.length=l.length∧∀ (i:Nat) (o:Opd),l[i]?=some o→(o.k=3∨o.k=4)→∃ c gs,os[i]?=some c∧x.way o.pl=some (c,gs)
 | [],os,h=>by
  cases h
  exact ⟨rfl,fun i o h=>by simp at h⟩
 | o::l,os,h=>by
  rw [Sc.opsT,Option.bind_eq_some_iff] at h
  obtain ⟨c,h1,h2⟩:=h
  obtain ⟨os',h3,rfl⟩:=Option.map_eq_some_iff.1 h2
  obtain ⟨h4,h5⟩:=opsT_at h3
  refine ⟨by simp [h4],fun i o' hi hk=>?_⟩
  cases i with
  | succ i=>rw [List.getElem?_cons_succ] at hi ⊢;exact h5 i o' hi hk
  | zero =>
   simp at hi
   subst hi
   unfold Sc.opT at h1
   rcases hk with hk|hk
   ·rw [if_neg (by omega),if_neg (by omega),if_pos hk,Option.bind_eq_some_iff] at h1
    obtain ⟨y,hy,h1⟩:=h1
    split at h1
    ·cases h1;exact ⟨_,y.2,rfl,hy⟩
    ·cases h1
   ·rw [if_neg (by omega),if_neg (by omega),if_neg (by omega),if_pos hk,Option.bind_eq_some_iff] at h1
    obtain ⟨y,hy,h1⟩:=h1
    split at h1
    ·cases h1;exact ⟨_,y.2,rfl,hy⟩
    ·cases h1
end Go.Proofs.YtdlggpcakaofoaaGreat
