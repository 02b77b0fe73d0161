import Derived.Test.YtmjenlogbkbgnaaGreatDoorB17
namespace Go.Proofs.YtmjenlogbkbgnaaGreatDoor
open Go.RowKit Go.Shelf
set_option linter.unusedVariables false
set_option linter.unusedSimpArgs false
set_option maxRecDepth 100000
set_option maxHeartbeats 8000000
def C7 (w:World) (g o:Nat) (nm:ByteArray) (lv:Int) (oa:Option Addr) (on oc:Nat) (pa:Int) (la:Option Addr) (ln lc:Nat) (na:Option Addr) (nn nc:Nat) (qa:Option Addr) (qn qc:Nat):Prop:=g<w.heap.size∧w.rangeAt g o [.string nm,.int .i64 lv,.slice oa on oc,.int .i64 pa,.slice la ln lc,.slice na nn nc,.slice qa qn qc]
theorem C7.bel {w w':World} {g o:Nat} {nm:ByteArray} {lv:Int} {oa:Option Addr} {on oc:Nat} {pa:Int} {la:Option Addr} {ln lc:Nat} {na:Option Addr} {nn nc:Nat} {qa:Option Addr} {qn qc:Nat} (h:C7 w g o nm lv oa on oc pa la ln lc na nn nc qa qn qc) (hb:Below w.heap.size w w'):C7 w' g o nm lv oa on oc pa la ln lc na nn nc qa qn qc:=⟨Nat.lt_of_lt_of_le h.1 hb.size,fun j v hv=>(cells_bel h.1 hb _).trans (h.2 j v hv)⟩
theorem C7.cells {w:World} {g o:Nat} {nm:ByteArray} {lv:Int} {oa:Option Addr} {on oc:Nat} {pa:Int} {la:Option Addr} {ln lc:Nat} {na:Option Addr} {nn nc:Nat} {qa:Option Addr} {qn qc:Nat} (h:C7 w g o nm lv oa on oc pa la ln lc na nn nc qa qn qc):w.cell? ⟨g,o+0,none⟩=some (.string nm)∧w.cell? ⟨g,o+1,none⟩=some (.int .i64 lv)∧w.cell? ⟨g,o+2,none⟩=some (.slice oa on oc)∧w.cell? ⟨g,o+3,none⟩=some (.int .i64 pa)∧w.cell? ⟨g,o+4,none⟩=some (.slice la ln lc)∧w.cell? ⟨g,o+5,none⟩=some (.slice na nn nc)∧w.cell? ⟨g,o+6,none⟩=some (.slice qa qn qc):=⟨h.2 0 _ rfl,h.2 1 _ rfl,h.2 2 _ rfl,h.2 3 _ rfl,h.2 4 _ rfl,h.2 5 _ rfl,h.2 6 _ rfl⟩
theorem size56:(Tryz.prog.info? 73).map (·.size)=some 7:=by kernel_rfl
structure UF (w:World) (ua:Option Addr) (un:Nat) (hs:List (Nat × List Ch)):Prop where
 len:hs.length=un
 le:un≤32
 at_:∀ (j k:Nat) (cl:List Ch),hs[j]?=some (k,cl)→∃ ug uo nm lv oa on oc la ln lc na nn nc qa qn qc,ua=some ⟨ug,uo,none⟩∧C7 w ug (uo+j*7) nm lv oa on oc (k:Int) la ln lc na nn nc qa qn qc∧LcAt w la ln lc (cl.map Ch.ty)∧(∀ c∈cl,Ok c)∧k<ln∧k≤8∧ln≤512∧ln≤lc
theorem UF.bel {w w':World} {ua:Option Addr} {un:Nat} {hs:List (Nat × List Ch)} (h:UF w ua un hs) (hb:Below w.heap.size w w'):UF w' ua un hs :=
 ⟨h.len,h.le,fun j k cl hj=>by
  obtain ⟨ug,uo,nm,lv,oa,on,oc,la,ln,lc,na,nn,nc,qa,qn,qc,e,h1,h2,h3⟩:=h.at_ j k cl hj
  exact ⟨ug,uo,nm,lv,oa,on,oc,la,ln,lc,na,nn,nc,qa,qn,qc,e,h1.bel hb,h2.bel hb,h3⟩⟩
theorem LcAt.cut {w:World} {g off n cap:Nat} {cl:List Ch} (h:LcAt w (some ⟨g,off,none⟩) n cap (cl.map Ch.ty)) (k cap':Nat) (hk:k<n):LcAt w (some ⟨g,off+5,none⟩) k cap' (((cl.drop 1).take k).map Ch.ty):=by
 have hl:n=cl.length:=by have:=h.len;rw [List.length_map] at this;exact this
 refine ⟨by simp;omega,by have:=h.big;omega,fun hne=>?_⟩
 obtain ⟨g',off',e,hc⟩:=h.cells (fun e=>by simp at e;subst e;simp at hl;omega)
 cases e
 refine ⟨g,off+5,rfl,fun i t hi=>?_⟩
 rw [List.getElem?_map,Option.map_eq_some_iff] at hi
 obtain ⟨c,hc1,rfl⟩:=hi
 have hc2:cl[i+1]?=some c:=by
  rw [List.getElem?_take] at hc1
  split at hc1
  ·rw [List.getElem?_drop] at hc1
   rw [Nat.add_comm]
   exact hc1
  ·cases hc1
 obtain ⟨V,h1,h2⟩:=hc (i+1) c.ty (by rw [List.getElem?_map,hc2];rfl)
 refine ⟨V,?_,h2⟩
 rw [show off+5+i*5=off+(i+1)*5 by omega]
 exact h1
theorem LcAt.none_of {w:World} {a:Option Addr} {cap:Nat}:LcAt w a 0 cap (([]:List Ch).map Ch.ty):=⟨rfl,by simp,fun h=>absurd rfl h⟩
def cmB (hs:List (Nat × List Ch)) (fn:Int) (t:Ch) (os:List Ch):Bool:=decide (0≤fn) && (match hs[fn.toNat]? with|some h=>alikeB ((h.2[0]?).getD (.leaf 0 0)) t && alikeL ((h.2.drop 1).take h.1) os|none=>false)
theorem wp_store56 {w:World} {o:Oper} {a:Act} {K:Act→World→Prop} {Q:Exit→Act→World→Prop} {x y:Nat} (b:Nat) (nm:ByteArray) (lv:Int) (oa:Option Addr) (on oc:Nat) (pa:Int) (la:Option Addr) (ln lc:Nat) (na:Option Addr) (nn nc:Nat) (qa:Option Addr) (qn qc:Nat) (ho:o.op=.store 73 (.tmp x) (.tmp y)) (hd:o.dst=none) (ht:w.there b 0 7) (hl:b<w.heap.size)
  (hx:a.eval (.tmp x)=.pointer (some ⟨b,0,none⟩)) (hy:a.eval (.tmp y)=.agg #[.string nm,.int .i64 lv,.slice oa on oc,.int .i64 pa,.slice la ln lc,.slice na nn nc,.slice qa qn qc]) (h:∀ w',C7 w' b 0 nm lv oa on oc pa la ln lc na nn nc qa qn qc→But b w w'→K a w'):o.wp Tryz.prog a w K Q:=by
 refine wp_store_mid 73 (.tmp x) (.tmp y) ho b 0 #[.string nm,.int .i64 lv,.slice oa on oc,.int .i64 pa,.slice la ln lc,.slice na nn nc,.slice qa qn qc] hx hy ht size56 (by simp [Value.oneCell']) ?_
 rw [hd]
 exact h _ ⟨Nat.lt_of_lt_of_le hl (but_setCells b _ 0 w).size,World.rangeAt_setCells_same w b 0 [.string nm,.int .i64 lv,.slice oa on oc,.int .i64 pa,.slice la ln lc,.slice na nn nc,.slice qa qn qc] ht⟩ (but_setCells b _ 0 w)
theorem there_new (w:World) (C:Array Value) (t:TypeId) (n:Nat) (hn:C.size=n):(w.alloc (.cells C t (0,0))).there w.heap.size 0 n:=fun j hj=>by
 have hA:At (w.alloc (.cells C t (0,0))) w.heap.size (.cells C t (0,0)):=At.new _ _
 unfold At at hA
 refine ⟨?_,frozen_of_row _ _ _ _ _ hA⟩
 rw [cell_of_row _ _ _ _ _ _ hA,Nat.zero_add]
 simp [hn,hj]
theorem call_any {w0 w:World} (hB0:Below w0.heap.size w0 w) (b:Nat) (fn:Int) (ua xa:Option Addr) (un ucap xn xcap:Nat) (k:Nat) (m:Bool) (q s:Int) (fa:Option Addr) (fn2 fcap:Nat)
  (hcs:∀ W,Below w.heap.size w W→W.cell? ⟨b,16,none⟩=some (.int .i64 fn)∧W.cell? ⟨b,22,none⟩=some (.slice ua un ucap)∧W.cell? ⟨b,77,none⟩=some (.slice xa xn xcap)∧W.cell? ⟨b,63,none⟩=some (.int .u8 (k:Int))∧W.cell? ⟨b,64,none⟩=some (.bool m)∧W.cell? ⟨b,65,none⟩=some (.int .i64 q)∧W.cell? ⟨b,66,none⟩=some (.int .i64 s)∧W.cell? ⟨b,67,none⟩=some (.slice fa fn2 fcap))
  {hs:List (Nat × List Ch)} (hU:UF w0 ua un hs) (os:List Ch) (hL:LcAt w xa xn xcap (os.map Ch.ty)) (hxn:xn≤2000000) (hO:∀ c∈os,Ok c) (c:Ch) (hc:Ok c) (hT:TyAt w ⟨k,m,q,s,fa,fn2,fcap⟩ c.ty)
  (r:Bool) (hr:r=cmB hs fn c os) :
  Calls Tryz.prog 199 #[.pointer (some ⟨b,0,none⟩)] w fun e w'=>e=.returned (.bool r)∧Below w.heap.size w w':=by
 have HC:=jH hcs
 by_cases hneg:fn<0
 ·have hr2:r=false:=by rw [hr];unfold cmB;rw [decide_eq_false (by omega)];rfl
  subst hr2
  clear hcs hr hU hL hO hc hT hB0
  obtain ⟨c16,c22,c77,c63,c64,c65,c66,c67⟩:=HC.out _ bR
  go_enter Tryz.func199,Tryz.ntmps199
  go_upto_region 1 with fail
  go_quiet (fail)
  go_wp2_with fail
  go_ret
  exact ⟨rfl,belN bR _⟩
 obtain ⟨j,rfl⟩:∃ j:Nat,fn=(j:Int):=⟨fn.toNat,by omega⟩
 by_cases hge:un≤j
 ·have hr2:r=false:=by
   rw [hr];unfold cmB
   rw [Int.toNat_natCast,List.getElem?_eq_none (by rw [hU.len];exact hge)]
   simp
  subst hr2
  have i1:(un:Int)≤(j:Int):=by omega
  clear hcs hr hU hL hO hc hT hB0 hge
  obtain ⟨c16,c22,c77,c63,c64,c65,c66,c67⟩:=HC.out _ bR
  go_enter Tryz.func199,Tryz.ntmps199
  go_upto_region 1 with fail
  go_quiet (fail)
  go_wp2_with fail
  go_ret
  exact ⟨rfl,belN bR _⟩
 obtain ⟨⟨pa,cl⟩,hj⟩:∃ h,hs[j]?=some h:=⟨_,List.getElem?_eq_getElem (by rw [hU.len];omega)⟩
 obtain ⟨ug,uo,nm,lv,oa,on,oc,la,ln,lc,na,nn,nc,qa,qn,qc,ea,hC7,hLc,hOk,hk1,hk2,hk3,hk4⟩:=hU.at_ j pa cl hj
 have hle:=hU.le
 have hll:ln=cl.length:=by have:=hLc.len;rw [List.length_map] at this;exact this
 obtain ⟨c0,hc0⟩:∃ c0,cl[0]?=some c0:=⟨_,List.getElem?_eq_getElem (by omega)⟩
 have hr2:r=(alikeB c0 c && alikeL ((cl.drop 1).take pa) os):=by
  rw [hr];unfold cmB
  rw [Int.toNat_natCast,hj,decide_eq_true (by omega)]
  simp only [hc0,Option.getD_some,Bool.true_and]
 subst ea
 obtain ⟨g,off,V0,el,hF0,hT0⟩:=hLc.one (i:=0) (t:=c0.ty) (by rw [List.getElem?_map,hc0];rfl)
 subst el
 rw [Nat.zero_mul,Nat.add_zero] at hF0
 have HG:Hid (∀ W,Below w.heap.size w W→C7 W ug (uo+j*7) nm lv oa on oc (pa:Int) (some ⟨g,off,none⟩) ln lc na nn nc qa qn qc):=fun W hW=>hC7.bel (jB hB0 hW)
 obtain ⟨kk,mm,rr,ss,aa,nn9,cc⟩:=V0
 obtain ⟨a1,ha1⟩:∃ a1,a1=alikeB c0 c:=⟨_,rfl⟩
 rw [← ha1] at hr2
 have CA:Hid (∀ W,Below w.heap.size w W→Calls Tryz.prog 21 #[tyV kk mm rr ss aa nn9 cc,tyV k m q s fa fn2 fcap] W fun e w'=>e=.returned (.bool a1)∧Below W.heap.size W w'):=fun W hW=>by rw [ha1];exact Alike_yes c0 c ⟨kk,mm,rr,ss,aa,nn9,cc⟩ ⟨k,m,q,s,fa,fn2,fcap⟩ W (hT0.bel (jB hB0 hW)) (hT.bel hW) (hOk c0 (List.mem_of_getElem? hc0)) hc
 have HF0:Hid (C5 w g off ⟨kk,mm,rr,ss,aa,nn9,cc⟩):=hF0.below hB0
 have CE0:a1=true→∀ (a9:Option Addr) (cap9:Nat),(a9=some ⟨g,off+5,none⟩∨pa=0)→∀ W,Below w.heap.size w W→Calls Tryz.prog 218 #[.slice a9 pa cap9,.slice xa xn xcap,fnV 21] W fun e w'=>e=.returned (.bool r)∧Below W.heap.size W w':=fun e1 a9 cap9 h9 W hW=>by
  rw [e1,Bool.true_and] at hr2
  refine eqT_any W a9 xa pa xn cap9 xcap ((cl.drop 1).take pa) os ?_ (hL.bel hW) (by omega) hxn (fun d hd=>hOk d (List.mem_of_mem_drop (List.mem_of_mem_take hd))) hO r hr2
  rcases h9 with rfl|rfl
  ·exact (hLc.bel (jB hB0 hW)).cut pa cap9 hk1
  ·rw [List.take_zero];exact LcAt.none_of
 clear ha1
 have i0:¬ (j:Int)<0:=by omega
 have i1:(j:Int)<(un:Int):=by omega
 have i2:¬ (un:Int)≤(j:Int):=by omega
 have i3:(0:Int)≤(j:Int):=by omega
 have i4:(un:Int)≤32:=by omega
 have i5:(0:Int)<(ln:Int):=by omega
 have i6:(pa:Int)≤8:=by omega
 have i7:(ln:Int)≤512:=by omega
 have i8:1+(pa:Int)≤(lc:Int):=by omega
 have i9:(0:Int)≤(pa:Int):=by omega
 have iw:IntKind.i64.wrap (1+(pa:Int))=1+(pa:Int):=by rw [IntKind.wrap_i64] <;> omega
 clear hcs hr hU hL hO hc hT hB0 hge hC7 hLc hOk hle hll hc0 hF0 hT0 hj hneg hk3
 obtain ⟨c16,c22,c77,c63,c64,c65,c66,c67⟩:=HC.out _ bR
 go_enter Tryz.func199,Tryz.ntmps199
 go_upto_region 1 with fail
 go_quiet (fail)
 go_upto_region 3 with fail
 clear c16 c22 c77 c63 c64 c65 c66 c67
 have HB9:Hid (Below w.heap.size w (w.drewN nq)):=jH (belN bR _)
 generalize w.drewN nq=w9 at *
 refine beginH (S:=fun V=>Below w.heap.size w V) (fun _ _ _ _ _ h=>h) (by kernel_rfl) (belN HB9.out 1) (fun hq hH=>?_)
 refine tz 0 24 (.pointer (some ⟨b,0,none⟩)) hq rfl rfl hH ?_
 simp only [pb,pc]
 refine tz 1 25 (.pointer (some ⟨b,0,none⟩)) hq rfl rfl hH ?_
 simp only [pb,pc]
 refine tz 2 26 (.pointer (some ⟨b,21,none⟩)) hq rfl rfl hH ?_
 simp only [pb,pc]
 refine tz 3 27 (.pointer (some ⟨b,22,none⟩)) hq rfl rfl hH ?_
 simp only [pb,pc]
 refine tq 4 28 (.slice (some ⟨ug,uo,none⟩) un ucap) hq rfl rfl (fun W hSw=>by (obtain ⟨c16,c22,c77,c63,c64,c65,c66,c67⟩:=HC.out _ hSw;obtain ⟨g0,g1,g2,g3,g4,g5,g6⟩:=(HG.out _ hSw).cells;simp only [Nat.add_zero] at g0;go_simp;try rfl)) hH ?_
 simp only [pb,pc]
 refine tz 5 29 (.pointer (some ⟨b,0,none⟩)) hq rfl rfl hH ?_
 simp only [pb,pc]
 refine tz 6 30 (.pointer (some ⟨b,0,none⟩)) hq rfl rfl hH ?_
 simp only [pb,pc]
 refine tz 7 31 (.pointer (some ⟨b,0,none⟩)) hq rfl rfl hH ?_
 simp only [pb,pc]
 refine tz 8 32 (.pointer (some ⟨b,16,none⟩)) hq rfl rfl hH ?_
 simp only [pb,pc]
 refine tq 9 33 (.int .i64 (j:Int)) hq rfl rfl (fun W hSw=>by (obtain ⟨c16,c22,c77,c63,c64,c65,c66,c67⟩:=HC.out _ hSw;obtain ⟨g0,g1,g2,g3,g4,g5,g6⟩:=(HG.out _ hSw).cells;simp only [Nat.add_zero] at g0;go_simp;try rfl)) hH ?_
 simp only [pb,pc]
 refine tz 10 34 (.pointer (some ⟨ug,uo+j*7,none⟩)) hq rfl rfl hH ?_
 simp only [pb,pc]
 refine tq 11 35 (.agg #[.string nm,.int .i64 lv,.slice oa on oc,.int .i64 (pa:Int),.slice (some ⟨g,off,none⟩) ln lc,.slice na nn nc,.slice qa qn qc]) hq rfl rfl (fun W hSw=>by (obtain ⟨c16,c22,c77,c63,c64,c65,c66,c67⟩:=HC.out _ hSw;obtain ⟨g0,g1,g2,g3,g4,g5,g6⟩:=(HG.out _ hSw).cells;simp only [Nat.add_zero] at g0;go_simp;try rfl)) hH ?_
 simp only [pb,pc]
 refine aR1 12 rfl (fun K hK=>?_)
 go_simp
 refine hK.out _ _ (belA hH) (fun hH=>?_)
 clear hK K
 try simp only [Act.put,List.setIfInBounds_toArray,pb,pc]
 refine aR1 13 rfl (fun K hK=>?_)
 refine wp_store56 w9.heap.size nm lv oa on oc (pa:Int) (some ⟨g,off,none⟩) ln lc na nn nc qa qn qc rfl rfl (there_new _ _ _ 7 rfl) (by simp) rfl rfl ?_
 intro w10 hc10 hb10
 have HB10:Hid (Below w.heap.size w w10):=jH (belBut hH hb10 HB9.out.size hH.size)
 have HC10:=jH hc10
 clear hc10 hb10
 refine hK.out _ _ HB10.out (fun hH=>?_)
 clear hK K
 try simp only [Act.put,List.setIfInBounds_toArray,pb,pc]
 refine wpAnyH_done (by kernel_rfl) ?_ _
 go_upto_region 4 with fail
 cases a1 with
 | false =>
  have hr3:r=false:=hr2
  subst hr3
  clear hr2 CE0
  refine beginH (S:=fun V=>Below w10.heap.size w10 V) (fun _ _ _ _ _ h=>h) (by kernel_rfl) (belN bR 1) (fun hq hH=>?_)
  refine tz 0 36 (.pointer (some ⟨w9.heap.size,4,none⟩)) hq rfl rfl hH ?_
  simp only [pb,pc]
  refine tq 1 37 (.slice (some ⟨g,off,none⟩) ln lc) hq rfl rfl (fun W hSw=>by (obtain ⟨c16,c22,c77,c63,c64,c65,c66,c67⟩:=HC.out _ (jB HB10.out hSw);obtain ⟨g0,g1,g2,g3,g4,g5,g6⟩:=(HC10.out.bel hSw).cells;simp only [Nat.zero_add,Nat.add_zero] at g0 g1 g2 g3 g4 g5 g6;obtain ⟨-,y0,y1,y2,y3,y4⟩:=(HF0.out.below (jB HB10.out hSw));go_simp;try first|rfl|omega)) hH ?_
  simp only [pb,pc]
  refine tz 2 38 (.pointer (some ⟨g,off,none⟩)) hq rfl rfl hH ?_
  simp only [pb,pc]
  refine tq 3 39 (.agg #[.int .u8 (kk:Int),.bool mm,.int .i64 rr,.int .i64 ss,.slice aa nn9 cc]) hq rfl rfl (fun W hSw=>by (obtain ⟨c16,c22,c77,c63,c64,c65,c66,c67⟩:=HC.out _ (jB HB10.out hSw);obtain ⟨g0,g1,g2,g3,g4,g5,g6⟩:=(HC10.out.bel hSw).cells;simp only [Nat.zero_add,Nat.add_zero] at g0 g1 g2 g3 g4 g5 g6;obtain ⟨-,y0,y1,y2,y3,y4⟩:=(HF0.out.below (jB HB10.out hSw));go_simp;try first|rfl|omega)) hH ?_
  simp only [pb,pc]
  refine tz 4 40 (.pointer (some ⟨b,0,none⟩)) hq rfl rfl hH ?_
  simp only [pb,pc]
  refine tz 5 41 (.pointer (some ⟨b,0,none⟩)) hq rfl rfl hH ?_
  simp only [pb,pc]
  refine tz 6 42 (.pointer (some ⟨b,63,none⟩)) hq rfl rfl hH ?_
  simp only [pb,pc]
  refine tz 7 43 (.pointer (some ⟨b,63,none⟩)) hq rfl rfl hH ?_
  simp only [pb,pc]
  refine tq 8 44 (.agg #[.int .u8 (k:Int),.bool m,.int .i64 q,.int .i64 s,.slice fa fn2 fcap]) hq rfl rfl (fun W hSw=>by (obtain ⟨c16,c22,c77,c63,c64,c65,c66,c67⟩:=HC.out _ (jB HB10.out hSw);obtain ⟨g0,g1,g2,g3,g4,g5,g6⟩:=(HC10.out.bel hSw).cells;simp only [Nat.zero_add,Nat.add_zero] at g0 g1 g2 g3 g4 g5 g6;obtain ⟨-,y0,y1,y2,y3,y4⟩:=(HF0.out.below (jB HB10.out hSw));go_simp;try first|rfl|omega)) hH ?_
  simp only [pb,pc]
  refine aR1 9 rfl (fun K hK=>?_)
  go_simp
  refine (CA.out _ (jB HB10.out (belN bR 1))).mono ?_
  rintro e v1 ⟨rfl,hb1⟩
  have hS1:Below w10.heap.size w10 v1:=jB (belN bR 1) hb1
  go_wp2_with fail
  refine hK.out _ _ hS1 (fun hH=>?_)
  clear hK K
  try simp only [Act.put,List.setIfInBounds_toArray,pb,pc]
  have HS1:=jH hS1
  clear hb1 hS1
  refine tz 10 46 (.bool false) hq rfl rfl hH ?_
  simp only [pb,pc]
  refine sq 11 47 hq rfl rfl hH ?_
  simp only [pb,pc]
  refine sq 12 48 hq rfl rfl hH ?_
  simp only [pb,pc]
  refine sq 13 49 hq rfl rfl hH ?_
  simp only [pb,pc]
  refine sq 14 50 hq rfl rfl hH ?_
  simp only [pb,pc]
  refine sq 15 51 hq rfl rfl hH ?_
  simp only [pb,pc]
  refine sq 16 52 hq rfl rfl hH ?_
  simp only [pb,pc]
  refine sq 17 53 hq rfl rfl hH ?_
  simp only [pb,pc]
  refine sq 18 54 hq rfl rfl hH ?_
  simp only [pb,pc]
  refine sq 19 55 hq rfl rfl hH ?_
  simp only [pb,pc]
  refine sq 20 56 hq rfl rfl hH ?_
  simp only [pb,pc]
  refine sq 21 57 hq rfl rfl hH ?_
  simp only [pb,pc]
  refine tz 22 58 (.bool false) hq rfl rfl hH ?_
  simp only [pb,pc]
  refine tz 23 2 (.bool false) hq rfl rfl hH ?_
  simp only [pb,pc]
  refine wpAnyH_done (by kernel_rfl) ?_ _
  go_wp2_with fail
  go_ret
  exact ⟨rfl,jB HB10.out HS1.out⟩
 | true =>
  have CE1:=CE0 rfl
  clear hr2 CE0
  by_cases hlc:lc=1
  ·subst hlc
   have p0:pa=0:=by omega
   subst p0
   have CE:Hid (∀ W,Below w.heap.size w W→Calls Tryz.prog 218 #[.slice (some ⟨g,off,none⟩) 0 0,.slice xa xn xcap,fnV 21] W fun e w'=>e=.returned (.bool r)∧Below W.heap.size W w'):=fun W hW=>CE1 _ _ (.inr rfl) W hW
   clear CE1
   refine beginH (S:=fun V=>Below w10.heap.size w10 V) (fun _ _ _ _ _ h=>h) (by kernel_rfl) (belN bR 1) (fun hq hH=>?_)
   refine tz 0 36 (.pointer (some ⟨w9.heap.size,4,none⟩)) hq rfl rfl hH ?_
   simp only [pb,pc]
   refine tq 1 37 (.slice (some ⟨g,off,none⟩) ln 1) hq rfl rfl (fun W hSw=>by (obtain ⟨c16,c22,c77,c63,c64,c65,c66,c67⟩:=HC.out _ (jB HB10.out hSw);obtain ⟨g0,g1,g2,g3,g4,g5,g6⟩:=(HC10.out.bel hSw).cells;simp only [Nat.zero_add,Nat.add_zero] at g0 g1 g2 g3 g4 g5 g6;obtain ⟨-,y0,y1,y2,y3,y4⟩:=(HF0.out.below (jB HB10.out hSw));go_simp;try first|rfl|omega)) hH ?_
   simp only [pb,pc]
   refine tz 2 38 (.pointer (some ⟨g,off,none⟩)) hq rfl rfl hH ?_
   simp only [pb,pc]
   refine tq 3 39 (.agg #[.int .u8 (kk:Int),.bool mm,.int .i64 rr,.int .i64 ss,.slice aa nn9 cc]) hq rfl rfl (fun W hSw=>by (obtain ⟨c16,c22,c77,c63,c64,c65,c66,c67⟩:=HC.out _ (jB HB10.out hSw);obtain ⟨g0,g1,g2,g3,g4,g5,g6⟩:=(HC10.out.bel hSw).cells;simp only [Nat.zero_add,Nat.add_zero] at g0 g1 g2 g3 g4 g5 g6;obtain ⟨-,y0,y1,y2,y3,y4⟩:=(HF0.out.below (jB HB10.out hSw));go_simp;try first|rfl|omega)) hH ?_
   simp only [pb,pc]
   refine tz 4 40 (.pointer (some ⟨b,0,none⟩)) hq rfl rfl hH ?_
   simp only [pb,pc]
   refine tz 5 41 (.pointer (some ⟨b,0,none⟩)) hq rfl rfl hH ?_
   simp only [pb,pc]
   refine tz 6 42 (.pointer (some ⟨b,63,none⟩)) hq rfl rfl hH ?_
   simp only [pb,pc]
   refine tz 7 43 (.pointer (some ⟨b,63,none⟩)) hq rfl rfl hH ?_
   simp only [pb,pc]
   refine tq 8 44 (.agg #[.int .u8 (k:Int),.bool m,.int .i64 q,.int .i64 s,.slice fa fn2 fcap]) hq rfl rfl (fun W hSw=>by (obtain ⟨c16,c22,c77,c63,c64,c65,c66,c67⟩:=HC.out _ (jB HB10.out hSw);obtain ⟨g0,g1,g2,g3,g4,g5,g6⟩:=(HC10.out.bel hSw).cells;simp only [Nat.zero_add,Nat.add_zero] at g0 g1 g2 g3 g4 g5 g6;obtain ⟨-,y0,y1,y2,y3,y4⟩:=(HF0.out.below (jB HB10.out hSw));go_simp;try first|rfl|omega)) hH ?_
   simp only [pb,pc]
   refine aR1 9 rfl (fun K hK=>?_)
   go_simp
   refine (CA.out _ (jB HB10.out (belN bR 1))).mono ?_
   rintro e v1 ⟨rfl,hb1⟩
   have hS1:Below w10.heap.size w10 v1:=jB (belN bR 1) hb1
   go_wp2_with fail
   refine hK.out _ _ hS1 (fun hH=>?_)
   clear hK K
   try simp only [Act.put,List.setIfInBounds_toArray,pb,pc]
   have HS1:=jH hS1
   clear hb1 hS1
   refine tz 10 46 (.bool true) hq rfl rfl hH ?_
   simp only [pb,pc]
   refine tz 11 47 (.pointer (some ⟨w9.heap.size,4,none⟩)) hq rfl rfl hH ?_
   simp only [pb,pc]
   refine tq 12 48 (.slice (some ⟨g,off,none⟩) ln 1) hq rfl rfl (fun W hSw=>by (obtain ⟨c16,c22,c77,c63,c64,c65,c66,c67⟩:=HC.out _ (jB HB10.out hSw);obtain ⟨g0,g1,g2,g3,g4,g5,g6⟩:=(HC10.out.bel hSw).cells;simp only [Nat.zero_add,Nat.add_zero] at g0 g1 g2 g3 g4 g5 g6;obtain ⟨-,y0,y1,y2,y3,y4⟩:=(HF0.out.below (jB HB10.out hSw));go_simp;try first|rfl|omega)) hH ?_
   simp only [pb,pc]
   refine tz 13 49 (.pointer (some ⟨w9.heap.size,3,none⟩)) hq rfl rfl hH ?_
   simp only [pb,pc]
   refine tq 14 50 (.int .i64 ((0:Nat):Int)) hq rfl rfl (fun W hSw=>by (obtain ⟨c16,c22,c77,c63,c64,c65,c66,c67⟩:=HC.out _ (jB HB10.out hSw);obtain ⟨g0,g1,g2,g3,g4,g5,g6⟩:=(HC10.out.bel hSw).cells;simp only [Nat.zero_add,Nat.add_zero] at g0 g1 g2 g3 g4 g5 g6;obtain ⟨-,y0,y1,y2,y3,y4⟩:=(HF0.out.below (jB HB10.out hSw));go_simp;try first|rfl|omega)) hH ?_
   simp only [pb,pc]
   refine tq 15 51 (.int .i64 (1+((0:Nat):Int))) hq rfl rfl (fun W hSw=>by (go_simp;try first|rfl|(rw [IntKind.wrap_i64 _ (by omega) (by omega)])|omega)) hH ?_
   simp only [pb,pc]
   refine tq 16 52 (.slice (some ⟨g,off,none⟩) 0 0) hq rfl rfl (fun W hSw=>by (go_simp;try first|rfl|(rw [if_pos (by omega),if_pos (by omega),show (1+((0:Nat):Int)).toNat - 1=pa by omega]))) hH ?_
   simp only [pb,pc]
   refine tz 17 53 (.pointer (some ⟨b,0,none⟩)) hq rfl rfl hH ?_
   simp only [pb,pc]
   refine tz 18 54 (.pointer (some ⟨b,0,none⟩)) hq rfl rfl hH ?_
   simp only [pb,pc]
   refine tz 19 55 (.pointer (some ⟨b,77,none⟩)) hq rfl rfl hH ?_
   simp only [pb,pc]
   refine tq 20 56 (.slice xa xn xcap) hq rfl rfl (fun W hSw=>by (obtain ⟨c16,c22,c77,c63,c64,c65,c66,c67⟩:=HC.out _ (jB HB10.out hSw);obtain ⟨g0,g1,g2,g3,g4,g5,g6⟩:=(HC10.out.bel hSw).cells;simp only [Nat.zero_add,Nat.add_zero] at g0 g1 g2 g3 g4 g5 g6;obtain ⟨-,y0,y1,y2,y3,y4⟩:=(HF0.out.below (jB HB10.out hSw));go_simp;try first|rfl|omega)) hH ?_
   simp only [pb,pc]
   refine aR1 21 rfl (fun K hK=>?_)
   go_simp
   refine (CE.out _ (jB HB10.out HS1.out)).mono ?_
   rintro e v2 ⟨rfl,hb2⟩
   have hS2:Below w10.heap.size w10 v2:=jB HS1.out hb2
   go_wp2_with fail
   refine hK.out _ _ hS2 (fun hH=>?_)
   clear hK K
   try simp only [Act.put,List.setIfInBounds_toArray,pb,pc]
   have HS2:=jH hS2
   clear hb2 hS2
   refine tz 22 58 (.bool r) hq rfl rfl hH ?_
   simp only [pb,pc]
   refine tz 23 2 (.bool r) hq rfl rfl hH ?_
   simp only [pb,pc]
   refine wpAnyH_done (by kernel_rfl) ?_ _
   go_wp2_with fail
   go_ret
   exact ⟨rfl,jB HB10.out HS2.out⟩
  ·have CE:Hid (∀ W,Below w.heap.size w W→Calls Tryz.prog 218 #[.slice (some ⟨g,off+5,none⟩) pa (lc - 1),.slice xa xn xcap,fnV 21] W fun e w'=>e=.returned (.bool r)∧Below W.heap.size W w'):=fun W hW=>CE1 _ _ (.inl rfl) W hW
   clear CE1
   refine beginH (S:=fun V=>Below w10.heap.size w10 V) (fun _ _ _ _ _ h=>h) (by kernel_rfl) (belN bR 1) (fun hq hH=>?_)
   refine tz 0 36 (.pointer (some ⟨w9.heap.size,4,none⟩)) hq rfl rfl hH ?_
   simp only [pb,pc]
   refine tq 1 37 (.slice (some ⟨g,off,none⟩) ln lc) hq rfl rfl (fun W hSw=>by (obtain ⟨c16,c22,c77,c63,c64,c65,c66,c67⟩:=HC.out _ (jB HB10.out hSw);obtain ⟨g0,g1,g2,g3,g4,g5,g6⟩:=(HC10.out.bel hSw).cells;simp only [Nat.zero_add,Nat.add_zero] at g0 g1 g2 g3 g4 g5 g6;obtain ⟨-,y0,y1,y2,y3,y4⟩:=(HF0.out.below (jB HB10.out hSw));go_simp;try first|rfl|omega)) hH ?_
   simp only [pb,pc]
   refine tz 2 38 (.pointer (some ⟨g,off,none⟩)) hq rfl rfl hH ?_
   simp only [pb,pc]
   refine tq 3 39 (.agg #[.int .u8 (kk:Int),.bool mm,.int .i64 rr,.int .i64 ss,.slice aa nn9 cc]) hq rfl rfl (fun W hSw=>by (obtain ⟨c16,c22,c77,c63,c64,c65,c66,c67⟩:=HC.out _ (jB HB10.out hSw);obtain ⟨g0,g1,g2,g3,g4,g5,g6⟩:=(HC10.out.bel hSw).cells;simp only [Nat.zero_add,Nat.add_zero] at g0 g1 g2 g3 g4 g5 g6;obtain ⟨-,y0,y1,y2,y3,y4⟩:=(HF0.out.below (jB HB10.out hSw));go_simp;try first|rfl|omega)) hH ?_
   simp only [pb,pc]
   refine tz 4 40 (.pointer (some ⟨b,0,none⟩)) hq rfl rfl hH ?_
   simp only [pb,pc]
   refine tz 5 41 (.pointer (some ⟨b,0,none⟩)) hq rfl rfl hH ?_
   simp only [pb,pc]
   refine tz 6 42 (.pointer (some ⟨b,63,none⟩)) hq rfl rfl hH ?_
   simp only [pb,pc]
   refine tz 7 43 (.pointer (some ⟨b,63,none⟩)) hq rfl rfl hH ?_
   simp only [pb,pc]
   refine tq 8 44 (.agg #[.int .u8 (k:Int),.bool m,.int .i64 q,.int .i64 s,.slice fa fn2 fcap]) hq rfl rfl (fun W hSw=>by (obtain ⟨c16,c22,c77,c63,c64,c65,c66,c67⟩:=HC.out _ (jB HB10.out hSw);obtain ⟨g0,g1,g2,g3,g4,g5,g6⟩:=(HC10.out.bel hSw).cells;simp only [Nat.zero_add,Nat.add_zero] at g0 g1 g2 g3 g4 g5 g6;obtain ⟨-,y0,y1,y2,y3,y4⟩:=(HF0.out.below (jB HB10.out hSw));go_simp;try first|rfl|omega)) hH ?_
   simp only [pb,pc]
   refine aR1 9 rfl (fun K hK=>?_)
   go_simp
   refine (CA.out _ (jB HB10.out (belN bR 1))).mono ?_
   rintro e v1 ⟨rfl,hb1⟩
   have hS1:Below w10.heap.size w10 v1:=jB (belN bR 1) hb1
   go_wp2_with fail
   refine hK.out _ _ hS1 (fun hH=>?_)
   clear hK K
   try simp only [Act.put,List.setIfInBounds_toArray,pb,pc]
   have HS1:=jH hS1
   clear hb1 hS1
   refine tz 10 46 (.bool true) hq rfl rfl hH ?_
   simp only [pb,pc]
   refine tz 11 47 (.pointer (some ⟨w9.heap.size,4,none⟩)) hq rfl rfl hH ?_
   simp only [pb,pc]
   refine tq 12 48 (.slice (some ⟨g,off,none⟩) ln lc) hq rfl rfl (fun W hSw=>by (obtain ⟨c16,c22,c77,c63,c64,c65,c66,c67⟩:=HC.out _ (jB HB10.out hSw);obtain ⟨g0,g1,g2,g3,g4,g5,g6⟩:=(HC10.out.bel hSw).cells;simp only [Nat.zero_add,Nat.add_zero] at g0 g1 g2 g3 g4 g5 g6;obtain ⟨-,y0,y1,y2,y3,y4⟩:=(HF0.out.below (jB HB10.out hSw));go_simp;try first|rfl|omega)) hH ?_
   simp only [pb,pc]
   refine tz 13 49 (.pointer (some ⟨w9.heap.size,3,none⟩)) hq rfl rfl hH ?_
   simp only [pb,pc]
   refine tq 14 50 (.int .i64 (pa:Int)) hq rfl rfl (fun W hSw=>by (obtain ⟨c16,c22,c77,c63,c64,c65,c66,c67⟩:=HC.out _ (jB HB10.out hSw);obtain ⟨g0,g1,g2,g3,g4,g5,g6⟩:=(HC10.out.bel hSw).cells;simp only [Nat.zero_add,Nat.add_zero] at g0 g1 g2 g3 g4 g5 g6;obtain ⟨-,y0,y1,y2,y3,y4⟩:=(HF0.out.below (jB HB10.out hSw));go_simp;try first|rfl|omega)) hH ?_
   simp only [pb,pc]
   refine tq 15 51 (.int .i64 (1+(pa:Int))) hq rfl rfl (fun W hSw=>by (go_simp;try first|rfl|(rw [IntKind.wrap_i64 _ (by omega) (by omega)])|omega)) hH ?_
   simp only [pb,pc]
   refine tq 16 52 (.slice (some ⟨g,off+5,none⟩) pa (lc - 1)) hq rfl rfl (fun W hSw=>by (go_simp;try first|rfl|(rw [if_pos (by omega),if_pos (by omega),show (1+(pa:Int)).toNat - 1=pa by omega]))) hH ?_
   simp only [pb,pc]
   refine tz 17 53 (.pointer (some ⟨b,0,none⟩)) hq rfl rfl hH ?_
   simp only [pb,pc]
   refine tz 18 54 (.pointer (some ⟨b,0,none⟩)) hq rfl rfl hH ?_
   simp only [pb,pc]
   refine tz 19 55 (.pointer (some ⟨b,77,none⟩)) hq rfl rfl hH ?_
   simp only [pb,pc]
   refine tq 20 56 (.slice xa xn xcap) hq rfl rfl (fun W hSw=>by (obtain ⟨c16,c22,c77,c63,c64,c65,c66,c67⟩:=HC.out _ (jB HB10.out hSw);obtain ⟨g0,g1,g2,g3,g4,g5,g6⟩:=(HC10.out.bel hSw).cells;simp only [Nat.zero_add,Nat.add_zero] at g0 g1 g2 g3 g4 g5 g6;obtain ⟨-,y0,y1,y2,y3,y4⟩:=(HF0.out.below (jB HB10.out hSw));go_simp;try first|rfl|omega)) hH ?_
   simp only [pb,pc]
   refine aR1 21 rfl (fun K hK=>?_)
   go_simp
   refine (CE.out _ (jB HB10.out HS1.out)).mono ?_
   rintro e v2 ⟨rfl,hb2⟩
   have hS2:Below w10.heap.size w10 v2:=jB HS1.out hb2
   go_wp2_with fail
   refine hK.out _ _ hS2 (fun hH=>?_)
   clear hK K
   try simp only [Act.put,List.setIfInBounds_toArray,pb,pc]
   have HS2:=jH hS2
   clear hb2 hS2
   refine tz 22 58 (.bool r) hq rfl rfl hH ?_
   simp only [pb,pc]
   refine tz 23 2 (.bool r) hq rfl rfl hH ?_
   simp only [pb,pc]
   refine wpAnyH_done (by kernel_rfl) ?_ _
   go_wp2_with fail
   go_ret
   exact ⟨rfl,jB HB10.out HS2.out⟩
end Go.Proofs.YtmjenlogbkbgnaaGreatDoor
