import Derived.Test.YtmjenlogbkbgnaaGreatDoorC03
import Derived.Test.YtmjenlogbkbgnaaGreatDoorC01
import Derived.Maps.OwnSet
import Derived.DeepKeys4
namespace Go.Proofs.YtmjenlogbkbgnaaGreatDoor
open Go.RowKit Go.Shelf Go.Maps
set_option linter.unusedVariables false
set_option linter.unusedSimpArgs false
set_option maxRecDepth 100000
set_option maxHeartbeats 8000000
theorem handB {W W':World} {bu bl br bn bp bq:Nat} (h:HandAt W bu bl br bn bp bq) (k:Below W.heap.size W W'):HandAt W' bu bl br bn bp bq:=h.bel k
def NoP (Q:Exit→Act→World→Prop):Exit→Act→World→Prop
 | .normal,a,w=>Q .normal a w
 | .ret,a,w=>Q .ret a w
 | _,_,_=>False
theorem noP {Q:Exit→Act→World→Prop} {e:Exit} {a:Act} {w:World} (h:NoP Q e a w):Q e a w:=by
 cases e with
 | normal=>exact h
 | ret=>exact h
 | exit _=>exact h.elim
 | goto _=>exact h.elim
 | panic _=>exact h.elim
 | outgrown=>exact h.elim
theorem keepO_put {W:World} {D:Nat} {ds:Option (List Deferred)} {o:Obj} (h:W.heap[D]?=some (.deferred ds)):KeepO W (W.putObj D o):=fun i t cs h1 h2 hA=>hA.grown (grownBy_putObj' _ _ _) (fun e=>by
 injection e with e
 subst e
 unfold At at hA
 rw [h] at hA
 cases hA)
theorem at_rngL {W:World} {b t:Nat} {l:List Value} (h:At W b (.cells l.toArray t)):W.rangeAt b 0 l:=at_rng h 0 l (fun j v hj=>by rw [Nat.zero_add];exact hj)
theorem at_rngP {W:World} {b:Nat} {p:Pv} (h:At W b (.cells (pC p).toArray 118)):W.rangeAt b 0 (pC p):=at_rngL h
abbrev zPC:Array Value:=#[.int .u8 0,.int .i64 0,.slice none 0 0,.int .u8 0,.int .i64 0,.int .i64 0,.slice none 0 0,.int .u8 0,.int .i64 0,.int .i64 0,.slice none 0 0,.slice none 0 0,.string ⟨#[]⟩,.int .i64 0,.slice none 0 0,.bool false,.int .i64 0,.int .i64 0,.int .i64 0,.int .i64 0,.int .i64 0]
theorem setPt (b:Nat) (w:World) (C:Array Value) (hA:At w b (.cells C 118)) (hC:C.size=21) (l:List Value) (hl:l.length=21):At (w.setCells b 0 l) b (.cells l.toArray 118):=by
 obtain ⟨C',h1,h2,-,h4,-⟩:=setCells_at b 118 l 0 w C hA
 have:C'=l.toArray:=by
  apply Array.ext_getElem?
  intro i
  rcases Nat.lt_or_ge i 21 with hi|hi
  ·have:=h4 i (by omega) (by omega)
   rw [Nat.zero_add] at this
   rw [this]
   simp
  ·rw [Array.getElem?_eq_none (by omega),Array.getElem?_eq_none (by simp;omega)]
 rw [this] at h1
 exact h1
theorem wpl_storePt {w:World} {ops:Array Oper} {rest:List Oper} {a9:Act} {Q:Exit→Act→World→Prop} {x y:Nat} {ty:TypeId} {pos:String} {after:Array Edge} (b:Nat) (C:Array Value) (hA:At w b (.cells C 118)) (hC:C.size=21) (ht:w.there b 0 21) (p:Pv)
  (hx:a9.eval (.tmp x)=.pointer (some ⟨b,0,none⟩)) (hy:a9.eval (.tmp y)=.agg (pC p).toArray)
  (h:∀ w',At w' b (.cells (pC p).toArray 118)→But b w w'→wpList Tryz.prog ops Q rest a9 w'):wpList Tryz.prog ops Q (⟨none,.store 118 (.tmp x) (.tmp y),ty,pos,after,none⟩::rest) a9 w:=by
 refine wpList_store_mid rfl 118 (.tmp x) (.tmp y) rfl b 0 _ hx hy ht size64 (all_oneCell_toArray (pC_ones p)) ?_
 exact h _ (setPt b w C hA hC _ rfl) (but_setCells b _ 0 w)
theorem rngB {W:World} {b:Nat} (h:W.rangeAt b 0 (pC hv0)) :
  W.cell? ⟨b,0,none⟩=some (.int .u8 4)∧W.cell? ⟨b,1,none⟩=some (.int .i64 2)∧W.cell? ⟨b,2,none⟩=some (.slice none 0 0)∧W.cell? ⟨b,13,none⟩=some (.int .i64 1)∧W.cell? ⟨b,14,none⟩=some (.slice none 0 0)∧W.cell? ⟨b,15,none⟩=some (.bool true) :=
 ⟨h 0 _ rfl,h 1 _ rfl,h 2 _ rfl,h 13 _ rfl,h 14 _ rfl,h 15 _ rfl⟩
theorem back_nil (w:World):Calls Tryz.prog 88 #[.slice none 0 0] w fun e w'=>e=.returned (fnB 108 w.heap.size)∧w'=w.alloc (One (.slice none 0 0) 41):=by
 go_enter Tryz.func88,Tryz.ntmps88
 go_wp2_with fail
 go_ret
 exact ⟨rfl,rfl⟩
theorem back_none (y:Value) (b:Nat) (w:World) (hA:At w b (One (.slice none 0 0) 41)):Calls Tryz.prog 108 #[y,.pointer (some ⟨b,0,none⟩)] w fun e w'=>(∃ v,e=.returned v)∧w'=w:=by
 obtain ⟨c0,f0⟩:=hA.one
 clear hA
 go_enter Tryz.func108,Tryz.ntmps108
 go_wp2_with fail
 go_loopw [3] (fun v V=>v=.int .i64 (-1)∧V=w) (fun _ _=>0)
 case atStart=>exact ⟨rfl,rfl⟩
 case round =>
  obtain ⟨rfl,rfl⟩:=hrel
  go_wp2_with fail
  go_end0
  exact ⟨⟨_,rfl⟩,rfl⟩
theorem borrow1 {fn:Nat} {R:List (Int × Int)→Int × Int→Prop} {w0:World} {J:List (Int × Int)→World→Prop} {b:Nat} (hT:TakeR fn [.pointer (some ⟨b,0,none⟩)] R w0 J) (l:List (Int × Int)) (hR:R l (1,0)) {bu bl br bn bp bq gL gA:Nat} {f:Nat→Fv} (hS:Scn w0 bu bl br bn bp bq gL gA f) (cL cA:Nat) (w:World) (hJ:J l w) :
  Calls Tryz.prog 62 #[scV bu bp gL cL gA cA,.int .i64 0,fnB fn b] w fun e w'=>e=.returned (.tuple #[])∧J (l++[(1,0)]) w'∧KeepO w w':=by
 have hBw:=hT.bel l w hJ
 have hS':Scn w bu bl br bn bp bq gL gA f:=⟨handB hS.h hBw,fun i c hi=>⟨(hS.t i c hi).1.below hBw,(hS.t i c hi).2.bel hBw⟩,(hBw.cell (p:=⟨gA,0,none⟩) hS.a.2).trans hS.a.1,Nat.lt_of_lt_of_le hS.a.2 hBw.size⟩
 have HSC:=jH hS'
 have HS0:=jH (At.new w (scO bu bp gL cL gA cA))
 have HTK:=jH (show At ((w.alloc (scO bu bp gL cL gA cA)).alloc (One (fnB fn b) 88)) (w.heap.size+1) (One (fnB fn b) 88) from at_snd _ _ _)
 obtain ⟨s0,s1,s2,s3,s4,s5,s6,s7,s8⟩:=(HS0.out.alloc (One (fnB fn b) 88)).sc
 have hp:=hS'.h.p
 have HRNG:=jH (rng_bel hp.lt (hand_pt hS'.h 0 hv0 rfl) (belA (belA (Below.refl w.heap.size w) (o:=scO bu bp gL cL gA cA)) (o:=One (fnB fn b) 88)))
 have HJ:=jH (fun (V:World) (hV:Below w.heap.size w V)=>hT.keep l w V hJ hV)
 obtain ⟨g2,o2,k2,x2,e2,hx2,ht2,-,-⟩:=(hS.t 2 _ rfl).2.ref
 obtain ⟨a1,k1,e1,-⟩:=(hS.t 1 _ rfl).2.leaf
 obtain ⟨a3,k3,e3,-⟩:=ht2.leaf
 subst e3
 have HW1:=jH (fun (V:World) (hV:Below w.heap.size w V)=>(way_nil (hS'.bel hV) cL cA 1 (.leaf 1 0) rfl:Calls Tryz.prog 87 #[scV bu bp gL cL gA cA,plV 1 none 0 0] V fun e w'=>e=.returned (.tuple #[(f 1).v,.slice none 0 0])∧Below V.heap.size V w'))
 have HW2:=jH (fun (V:World) (hV:Below w.heap.size w V)=>typeOf_of (pl:=⟨2,none,0,0⟩) (fun x=>x=f 2) (fun U hU=>(way_nil ((hS'.bel hV).bel hU) cL cA 2 (.ref true 0 (.leaf 1 0)) rfl).mono fun e w' ⟨h1,h2⟩=>⟨f 2,_,h1,rfl,h2⟩))
 have HFL:=jH (fun (V:World) (blk:Nat) (hj:J l V) (hA:At V blk (Fv.o ⟨1,false,0,0,a1,0,k1⟩))=>flow_ref1 hT true true 1 0 blk 0 1 g2 o2 k2 ⟨1,false,0,0,a1,0,k1⟩ ⟨1,false,0,0,a3,0,k3⟩ false l (l++[(1,0)]) V (fun L U _ hk=>(hk _ _ hA).ty) (fun L U hU _=>hx2.below (hT.bel _ _ hU)) hj hR (fun h=>by cases h) (by decide) (by decide) (by decide) (by decide) (fun U hU=>flow_leaf1 hT 1 0 0 a1 a3 k1 k3 1 true (l++[(1,0)]) U (by decide) (by decide) (by simpa using hU)))
 rw [e1] at HW1
 rw [e2] at HW2
 have hKP:=jH hT.keep
 clear hp hS hS' hJ hx2 ht2 hT hR hBw
 refine (callsIn_wide (n:=3)).1 ?_
 refine callsIn_of_wp_marks Tryz.func62 rfl trivial ?_ rfl
 simp only [Tryz.ntmps62,List.size_toArray,List.length_cons,List.length_nil,Nat.reduceAdd,Nat.reduceSub,Array.replicate_succ,Array.replicate_zero,List.push_toArray,List.append_toArray,List.nil_append,List.cons_append]
 refine wpIn_mono (Q:=NoP (bodyPostM Fence.wide 3 Tryz.prog Tryz.f62 fun e w'=>e=.returned (.tuple #[])∧J (l++[(1,0)]) w'∧KeepO w w')) ?_ (fun e a w h=>noP h)
 refine wpIn_wide.2 ?_
 go_upto_region 3 with (first
  | ((with_reducible show wpList _ _ _ (Oper.mk (some _) (Op.load 118 _) _ _ _ none::_) _ _);refine wpl_load64 bp 0 (pC hv0) rfl rfl HRNG.out Tryz.underlying118 rfl ?_)
  | ((with_reducible show wpList _ _ _ (Oper.mk none (Op.store 118 _ _) _ _ _ none::_) _ _);refine wpl_storePt (w.heap.size+1+1) zPC (three_new w (scO bu bp gL cL gA cA) (One (fnB fn b) 88) (.cells zPC 118)).2.2 rfl (by simpa using there_new ((w.alloc (scO bu bp gL cL gA cA)).alloc (One (fnB fn b) 88)) _ _ 21 rfl) hv0 rfl rfl ?_;intro w3 ha3 hb3;have HRP:=jH ha3;have hl3:=ha3.lt;have HLT:=jH hl3;have hr3:=at_rngP ha3;have HB3:=jH (belBut (belA (belA (belA (Below.refl w.heap.size w)))) hb3 (by omega) (by simp only [World.size_alloc];omega));have HS3:=jH (((HS0.out.alloc _).alloc _).but hb3 (by omega));have HK3:=jH ((HTK.out.alloc _).but hb3 (by omega));have HC3:=jH (HSC.out.bel HB3.out);obtain ⟨s0,s1,s2,s3,s4,s5,s6,s7,s8⟩:=HS3.out.sc;obtain ⟨p0,p1⟩:=HC3.out.a;have hz3:w.heap.size<w3.heap.size:=(by omega);obtain ⟨t0,t1,t2,t3,t4,t5⟩:=rngB hr3;clear hr3 hb3))
 clear HRNG
 go_upto_region 5 with (first
  | (go_at_call 87;go_loud (refine (HW1.out _ (belA HB3.out)).mono ?_;rintro e w4 ⟨rfl,hb⟩;have HB4:=jH (jB (belA HB3.out) hb);have HS4:=jH ((HS3.out.alloc (One (.int .i64 1) 3)).below hb);have HK4:=jH ((HK3.out.alloc (One (.int .i64 1) 3)).below hb);have HR4:=jH ((HRP.out.alloc (One (.int .i64 1) 3)).below hb);have HO4:=jH ((At.new w3 (One (.int .i64 1) 3)).below hb);have HL4:=jH (Nat.lt_of_lt_of_le (by have:=HLT.out;simp only [World.size_alloc];omega) hb.size:w.heap.size+1+1<w4.heap.size);clear hb s0 s1 s2 s3 s4 s5 s6 s7 s8 t0 t1 t2 t3 t4 t5;have hl4:=HL4.out;have ho4:=HO4.out.lt))
  | (refine wpl_storeT1 w4.heap.size zT ⟨1,false,0,0,a1,0,k1⟩ (At.new w4 zT.o) rfl rfl ?_;intro w5 ha5 hb5;have HB5:=jH (belBut (belA HB4.out) hb5 HB4.out.size (by have:=HB4.out.size;simp only [World.size_alloc];omega));have HS5:=jH ((HS4.out.alloc zT.o).but hb5 (by have:=HL4.out;omega));have HK5:=jH ((HK4.out.alloc zT.o).but hb5 (by have:=HL4.out;omega));have HR5:=jH ((HR4.out.alloc zT.o).but hb5 (by have:=HL4.out;omega));have HO5:=jH ((HO4.out.alloc zT.o).but hb5 (Nat.ne_of_lt HO4.out.lt));have HL5:=jH (Nat.lt_of_lt_of_le HL4.out (Nat.le_trans (Nat.le_of_lt ha5.lt) (Nat.le_refl _)):w.heap.size+1+1<w5.heap.size);obtain ⟨t0,t1,t2,t3,t4,t5⟩:=rngB (at_rngP HR5.out);obtain ⟨o0,-⟩:=HO5.out.one;obtain ⟨-,v0,v1,v2,v3,v4⟩:=ha5.ty;simp only [Nat.zero_add] at v0 v1 v2 v3 v4;have hw5:=HB5.out.size;clear ha5 hb5)
  | (refine wpl_storeT1 (w5.heap.size+1) zT ⟨4,true,1,0,some ⟨w5.heap.size,0,none⟩,1,1⟩ (at_snd w5 (Fv.o ⟨1,false,0,0,a1,0,k1⟩) zT.o) rfl rfl ?_;intro w6 ha6 hb6;have HB6:=jH (belBut (belA (belA HB5.out)) hb6 (by omega) (by simp only [World.size_alloc];omega));have HS6:=jH (((HS5.out.alloc (Fv.o ⟨1,false,0,0,a1,0,k1⟩)).alloc zT.o).but hb6 (by have:=HL5.out;omega));have HK6:=jH (((HK5.out.alloc (Fv.o ⟨1,false,0,0,a1,0,k1⟩)).alloc zT.o).but hb6 (by have:=HL5.out;omega));have HR6:=jH (((HR5.out.alloc (Fv.o ⟨1,false,0,0,a1,0,k1⟩)).alloc zT.o).but hb6 (by have:=HL5.out;omega));have HBK:=jH (((At.new w5 (Fv.o ⟨1,false,0,0,a1,0,k1⟩)).alloc zT.o).but hb6 (by omega));have HM6:=jH ha6;clear ha6 hb6 v0 v1 v2 v3 v4 o0 t0 t1 t2 t3 t4 t5))
 have HL6:Hid (w.heap.size+1+1<w6.heap.size):=jH (Nat.lt_trans HL5.out (Nat.lt_of_le_of_lt (Nat.le_succ _) HM6.out.lt))
 clear p0 p1 HSC HS0 HTK HRP HLT HB3 HS3 HK3 HC3 HB4 HS4 HK4 HR4 HO4 HL4 HB5 HS5 HK5 HR5 HO5 HL5 HW1
 refine beginH (S:=fun V=>KeepO w6 V) (fun _ _ _ _ _ h=>h) (by kernel_rfl) (keepO_bel (belN bR 1)) (fun hq hH=>?_)
 refine tq 0 37 (tyV 4 true 1 0 (some ⟨w5.heap.size,0,none⟩) 1 1) hq rfl rfl (fun W hSw=>by (obtain ⟨-,v0,v1,v2,v3,v4⟩:=(At.ty (KeepO.kt hSw _ _ HM6.out));simp only [Nat.zero_add] at v0 v1 v2 v3 v4;go_simp;try rfl)) hH ?_
 simp only [pb,pc]
 refine tq 1 38 (scV bu bp gL cL gA cA) hq rfl rfl (fun W hSw=>by (obtain ⟨s0,s1,s2,s3,s4,s5,s6,s7,s8⟩:=(At.sc (hSw _ 79 _ (by decide) (by decide) HS6.out));go_simp;try rfl)) hH ?_
 simp only [pb,pc]
 refine tz 2 39 (.pointer (some ⟨w.heap.size+1+1,1,none⟩)) hq rfl rfl hH ?_
 simp only [pb,pc]
 refine tq 3 40 (plV 2 none 0 0) hq rfl rfl (fun W hSw=>by (obtain ⟨t0,t1,t2,t3,t4,t5⟩:=rngB (at_rngP (hSw _ 118 _ (by decide) (by decide) HR6.out));go_simp;try rfl)) hH ?_
 simp only [pb,pc]
 refine tq 5 42 (fnB fn b) hq rfl rfl (fun W hSw=>by (obtain ⟨u0,u1⟩:=(At.one (hSw _ 88 _ (by decide) (by decide) HK6.out));go_simp;try rfl)) hH ?_
 simp only [pb,pc]
 refine aR1 4 rfl (fun K hK=>?_)
 have C1:=jH (HW2.out _ (belN HB6.out 1))
 go_simp
 refine C1.out.mono ?_
 rintro e w7 ⟨x,rfl,rfl,hb⟩
 have HB7:=jH (jB (belN HB6.out 1) hb)
 have hS7:Below w6.heap.size w6 w7:=jB (belN bR 1) hb
 have HBK7:=jH (HBK.out.below hS7)
 clear hb C1
 go_wp2_with fail
 refine hK.out _ _ (keepO_bel hS7) (fun hH=>?_)
 clear hK K
 try simp only [Act.put,List.setIfInBounds_toArray,pb,pc]
 refine aR1 6 rfl (fun K hK=>?_)
 have C2:=jH (HFL.out w7 w5.heap.size (HJ.out _ HB7.out) HBK7.out)
 go_simp
 refine C2.out.mono ?_
 rintro e w8 ⟨rfl,hj,hko⟩
 have HJ8:=jH hj
 have hS8:KeepO w6 w8:=(keepO_bel hS7).trans hko
 have HKO8:Hid (KeepO w w8):=jH ((keepO_bel HB6.out).trans hS8)
 clear hj C2 hko
 go_wp2_with fail
 refine hK.out _ _ hS8 (fun hH=>?_)
 clear hK K
 try simp only [Act.put,List.setIfInBounds_toArray,pb,pc]
 refine wpAnyH_done (by kernel_rfl) ?_ _
 clear hH hq hS8 hS7
 go_wp2_with (go_at_call 88;refine (back_nil _).mono ?_;rintro e w9 ⟨rfl,rfl⟩)
 have hA9:=At.new w8 (One (.slice none 0 0) 41)
 have HB9:Hid (Below w8.heap.size w8 (w8.alloc (One (.slice none 0 0) 41))):=jH (belA bR)
 refine range_none (gf:=108) (lb:=#[.pointer (some ⟨w8.heap.size,0,none⟩)]) rfl (fun args W=>by kernel_rfl) (fun l W hW=>back_none _ _ W (hA9.below hW)) ?_
 intro D W hD hB hK
 have HBW:=jH (jB HB9.out hB)
 clear hA9 HB9 hB
 go_wp2_with fail
 refine ⟨by simp,.inl ⟨_,_,rfl,run_takeDeferred hK,?_⟩⟩
 refine ⟨_,results_none rfl _ _ _,rfl,hKP.out _ _ _ HJ8.out (HBW.out.grown (grownBy_putObj' _ _ _) HBW.out.size (fun k e=>by cases e;simp only [World.size_alloc] at hD;omega)),(HKO8.out.trans (keepO_bel HBW.out)).trans (keepO_put hK)⟩
theorem borrow2 {fn:Nat} {R:List (Int × Int)→Int × Int→Prop} {w0:World} {J:List (Int × Int)→World→Prop} {b b2:Nat} (hT:TakeR fn [.pointer (some ⟨b,0,none⟩),.pointer (some ⟨b2,0,none⟩)] R w0 J) (l:List (Int × Int)) (hR:R l (1,0)) {bu bl br bn bp bq gL gA:Nat} {f:Nat→Fv} (hS:Scn w0 bu bl br bn bp bq gL gA f) (cL cA:Nat) (w:World) (hJ:J l w) :
  Calls Tryz.prog 62 #[scV bu bp gL cL gA cA,.int .i64 0,fnC fn b b2] w fun e w'=>e=.returned (.tuple #[])∧J (l++[(1,0)]) w'∧KeepO w w':=by
 have hBw:=hT.bel l w hJ
 have hS':Scn w bu bl br bn bp bq gL gA f:=⟨handB hS.h hBw,fun i c hi=>⟨(hS.t i c hi).1.below hBw,(hS.t i c hi).2.bel hBw⟩,(hBw.cell (p:=⟨gA,0,none⟩) hS.a.2).trans hS.a.1,Nat.lt_of_lt_of_le hS.a.2 hBw.size⟩
 have HSC:=jH hS'
 have HS0:=jH (At.new w (scO bu bp gL cL gA cA))
 have HTK:=jH (show At ((w.alloc (scO bu bp gL cL gA cA)).alloc (One (fnC fn b b2) 88)) (w.heap.size+1) (One (fnC fn b b2) 88) from at_snd _ _ _)
 obtain ⟨s0,s1,s2,s3,s4,s5,s6,s7,s8⟩:=(HS0.out.alloc (One (fnC fn b b2) 88)).sc
 have hp:=hS'.h.p
 have HRNG:=jH (rng_bel hp.lt (hand_pt hS'.h 0 hv0 rfl) (belA (belA (Below.refl w.heap.size w) (o:=scO bu bp gL cL gA cA)) (o:=One (fnC fn b b2) 88)))
 have HJ:=jH (fun (V:World) (hV:Below w.heap.size w V)=>hT.keep l w V hJ hV)
 obtain ⟨g2,o2,k2,x2,e2,hx2,ht2,-,-⟩:=(hS.t 2 _ rfl).2.ref
 obtain ⟨a1,k1,e1,-⟩:=(hS.t 1 _ rfl).2.leaf
 obtain ⟨a3,k3,e3,-⟩:=ht2.leaf
 subst e3
 have HW1:=jH (fun (V:World) (hV:Below w.heap.size w V)=>(way_nil (hS'.bel hV) cL cA 1 (.leaf 1 0) rfl:Calls Tryz.prog 87 #[scV bu bp gL cL gA cA,plV 1 none 0 0] V fun e w'=>e=.returned (.tuple #[(f 1).v,.slice none 0 0])∧Below V.heap.size V w'))
 have HW2:=jH (fun (V:World) (hV:Below w.heap.size w V)=>typeOf_of (pl:=⟨2,none,0,0⟩) (fun x=>x=f 2) (fun U hU=>(way_nil ((hS'.bel hV).bel hU) cL cA 2 (.ref true 0 (.leaf 1 0)) rfl).mono fun e w' ⟨h1,h2⟩=>⟨f 2,_,h1,rfl,h2⟩))
 have HFL:=jH (fun (V:World) (blk:Nat) (hj:J l V) (hA:At V blk (Fv.o ⟨1,false,0,0,a1,0,k1⟩))=>flow_ref2 hT true true 1 0 blk 0 1 g2 o2 k2 ⟨1,false,0,0,a1,0,k1⟩ ⟨1,false,0,0,a3,0,k3⟩ false l (l++[(1,0)]) V (fun L U _ hk=>(hk _ _ hA).ty) (fun L U hU _=>hx2.below (hT.bel _ _ hU)) hj hR (fun h=>by cases h) (by decide) (by decide) (by decide) (by decide) (fun U hU=>flow_leaf2 hT 1 0 0 a1 a3 k1 k3 1 true (l++[(1,0)]) U (by decide) (by decide) (by simpa using hU)))
 rw [e1] at HW1
 rw [e2] at HW2
 have hKP:=jH hT.keep
 clear hp hS hS' hJ hx2 ht2 hT hR hBw
 refine (callsIn_wide (n:=3)).1 ?_
 refine callsIn_of_wp_marks Tryz.func62 rfl trivial ?_ rfl
 simp only [Tryz.ntmps62,List.size_toArray,List.length_cons,List.length_nil,Nat.reduceAdd,Nat.reduceSub,Array.replicate_succ,Array.replicate_zero,List.push_toArray,List.append_toArray,List.nil_append,List.cons_append]
 refine wpIn_mono (Q:=NoP (bodyPostM Fence.wide 3 Tryz.prog Tryz.f62 fun e w'=>e=.returned (.tuple #[])∧J (l++[(1,0)]) w'∧KeepO w w')) ?_ (fun e a w h=>noP h)
 refine wpIn_wide.2 ?_
 go_upto_region 3 with (first
  | ((with_reducible show wpList _ _ _ (Oper.mk (some _) (Op.load 118 _) _ _ _ none::_) _ _);refine wpl_load64 bp 0 (pC hv0) rfl rfl HRNG.out Tryz.underlying118 rfl ?_)
  | ((with_reducible show wpList _ _ _ (Oper.mk none (Op.store 118 _ _) _ _ _ none::_) _ _);refine wpl_storePt (w.heap.size+1+1) zPC (three_new w (scO bu bp gL cL gA cA) (One (fnC fn b b2) 88) (.cells zPC 118)).2.2 rfl (by simpa using there_new ((w.alloc (scO bu bp gL cL gA cA)).alloc (One (fnC fn b b2) 88)) _ _ 21 rfl) hv0 rfl rfl ?_;intro w3 ha3 hb3;have HRP:=jH ha3;have hl3:=ha3.lt;have HLT:=jH hl3;have hr3:=at_rngP ha3;have HB3:=jH (belBut (belA (belA (belA (Below.refl w.heap.size w)))) hb3 (by omega) (by simp only [World.size_alloc];omega));have HS3:=jH (((HS0.out.alloc _).alloc _).but hb3 (by omega));have HK3:=jH ((HTK.out.alloc _).but hb3 (by omega));have HC3:=jH (HSC.out.bel HB3.out);obtain ⟨s0,s1,s2,s3,s4,s5,s6,s7,s8⟩:=HS3.out.sc;obtain ⟨p0,p1⟩:=HC3.out.a;have hz3:w.heap.size<w3.heap.size:=(by omega);obtain ⟨t0,t1,t2,t3,t4,t5⟩:=rngB hr3;clear hr3 hb3))
 clear HRNG
 go_upto_region 5 with (first
  | (go_at_call 87;go_loud (refine (HW1.out _ (belA HB3.out)).mono ?_;rintro e w4 ⟨rfl,hb⟩;have HB4:=jH (jB (belA HB3.out) hb);have HS4:=jH ((HS3.out.alloc (One (.int .i64 1) 3)).below hb);have HK4:=jH ((HK3.out.alloc (One (.int .i64 1) 3)).below hb);have HR4:=jH ((HRP.out.alloc (One (.int .i64 1) 3)).below hb);have HO4:=jH ((At.new w3 (One (.int .i64 1) 3)).below hb);have HL4:=jH (Nat.lt_of_lt_of_le (by have:=HLT.out;simp only [World.size_alloc];omega) hb.size:w.heap.size+1+1<w4.heap.size);clear hb s0 s1 s2 s3 s4 s5 s6 s7 s8 t0 t1 t2 t3 t4 t5;have hl4:=HL4.out;have ho4:=HO4.out.lt))
  | (refine wpl_storeT1 w4.heap.size zT ⟨1,false,0,0,a1,0,k1⟩ (At.new w4 zT.o) rfl rfl ?_;intro w5 ha5 hb5;have HB5:=jH (belBut (belA HB4.out) hb5 HB4.out.size (by have:=HB4.out.size;simp only [World.size_alloc];omega));have HS5:=jH ((HS4.out.alloc zT.o).but hb5 (by have:=HL4.out;omega));have HK5:=jH ((HK4.out.alloc zT.o).but hb5 (by have:=HL4.out;omega));have HR5:=jH ((HR4.out.alloc zT.o).but hb5 (by have:=HL4.out;omega));have HO5:=jH ((HO4.out.alloc zT.o).but hb5 (Nat.ne_of_lt HO4.out.lt));have HL5:=jH (Nat.lt_of_lt_of_le HL4.out (Nat.le_trans (Nat.le_of_lt ha5.lt) (Nat.le_refl _)):w.heap.size+1+1<w5.heap.size);obtain ⟨t0,t1,t2,t3,t4,t5⟩:=rngB (at_rngP HR5.out);obtain ⟨o0,-⟩:=HO5.out.one;obtain ⟨-,v0,v1,v2,v3,v4⟩:=ha5.ty;simp only [Nat.zero_add] at v0 v1 v2 v3 v4;have hw5:=HB5.out.size;clear ha5 hb5)
  | (refine wpl_storeT1 (w5.heap.size+1) zT ⟨4,true,1,0,some ⟨w5.heap.size,0,none⟩,1,1⟩ (at_snd w5 (Fv.o ⟨1,false,0,0,a1,0,k1⟩) zT.o) rfl rfl ?_;intro w6 ha6 hb6;have HB6:=jH (belBut (belA (belA HB5.out)) hb6 (by omega) (by simp only [World.size_alloc];omega));have HS6:=jH (((HS5.out.alloc (Fv.o ⟨1,false,0,0,a1,0,k1⟩)).alloc zT.o).but hb6 (by have:=HL5.out;omega));have HK6:=jH (((HK5.out.alloc (Fv.o ⟨1,false,0,0,a1,0,k1⟩)).alloc zT.o).but hb6 (by have:=HL5.out;omega));have HR6:=jH (((HR5.out.alloc (Fv.o ⟨1,false,0,0,a1,0,k1⟩)).alloc zT.o).but hb6 (by have:=HL5.out;omega));have HBK:=jH (((At.new w5 (Fv.o ⟨1,false,0,0,a1,0,k1⟩)).alloc zT.o).but hb6 (by omega));have HM6:=jH ha6;clear ha6 hb6 v0 v1 v2 v3 v4 o0 t0 t1 t2 t3 t4 t5))
 have HL6:Hid (w.heap.size+1+1<w6.heap.size):=jH (Nat.lt_trans HL5.out (Nat.lt_of_le_of_lt (Nat.le_succ _) HM6.out.lt))
 clear p0 p1 HSC HS0 HTK HRP HLT HB3 HS3 HK3 HC3 HB4 HS4 HK4 HR4 HO4 HL4 HB5 HS5 HK5 HR5 HO5 HL5 HW1
 refine beginH (S:=fun V=>KeepO w6 V) (fun _ _ _ _ _ h=>h) (by kernel_rfl) (keepO_bel (belN bR 1)) (fun hq hH=>?_)
 refine tq 0 37 (tyV 4 true 1 0 (some ⟨w5.heap.size,0,none⟩) 1 1) hq rfl rfl (fun W hSw=>by (obtain ⟨-,v0,v1,v2,v3,v4⟩:=(At.ty (KeepO.kt hSw _ _ HM6.out));simp only [Nat.zero_add] at v0 v1 v2 v3 v4;go_simp;try rfl)) hH ?_
 simp only [pb,pc]
 refine tq 1 38 (scV bu bp gL cL gA cA) hq rfl rfl (fun W hSw=>by (obtain ⟨s0,s1,s2,s3,s4,s5,s6,s7,s8⟩:=(At.sc (hSw _ 79 _ (by decide) (by decide) HS6.out));go_simp;try rfl)) hH ?_
 simp only [pb,pc]
 refine tz 2 39 (.pointer (some ⟨w.heap.size+1+1,1,none⟩)) hq rfl rfl hH ?_
 simp only [pb,pc]
 refine tq 3 40 (plV 2 none 0 0) hq rfl rfl (fun W hSw=>by (obtain ⟨t0,t1,t2,t3,t4,t5⟩:=rngB (at_rngP (hSw _ 118 _ (by decide) (by decide) HR6.out));go_simp;try rfl)) hH ?_
 simp only [pb,pc]
 refine tq 5 42 (fnC fn b b2) hq rfl rfl (fun W hSw=>by (obtain ⟨u0,u1⟩:=(At.one (hSw _ 88 _ (by decide) (by decide) HK6.out));go_simp;try rfl)) hH ?_
 simp only [pb,pc]
 refine aR1 4 rfl (fun K hK=>?_)
 have C1:=jH (HW2.out _ (belN HB6.out 1))
 go_simp
 refine C1.out.mono ?_
 rintro e w7 ⟨x,rfl,rfl,hb⟩
 have HB7:=jH (jB (belN HB6.out 1) hb)
 have hS7:Below w6.heap.size w6 w7:=jB (belN bR 1) hb
 have HBK7:=jH (HBK.out.below hS7)
 clear hb C1
 go_wp2_with fail
 refine hK.out _ _ (keepO_bel hS7) (fun hH=>?_)
 clear hK K
 try simp only [Act.put,List.setIfInBounds_toArray,pb,pc]
 refine aR1 6 rfl (fun K hK=>?_)
 have C2:=jH (HFL.out w7 w5.heap.size (HJ.out _ HB7.out) HBK7.out)
 go_simp
 refine C2.out.mono ?_
 rintro e w8 ⟨rfl,hj,hko⟩
 have HJ8:=jH hj
 have hS8:KeepO w6 w8:=(keepO_bel hS7).trans hko
 have HKO8:Hid (KeepO w w8):=jH ((keepO_bel HB6.out).trans hS8)
 clear hj C2 hko
 go_wp2_with fail
 refine hK.out _ _ hS8 (fun hH=>?_)
 clear hK K
 try simp only [Act.put,List.setIfInBounds_toArray,pb,pc]
 refine wpAnyH_done (by kernel_rfl) ?_ _
 clear hH hq hS8 hS7
 go_wp2_with (go_at_call 88;refine (back_nil _).mono ?_;rintro e w9 ⟨rfl,rfl⟩)
 have hA9:=At.new w8 (One (.slice none 0 0) 41)
 have HB9:Hid (Below w8.heap.size w8 (w8.alloc (One (.slice none 0 0) 41))):=jH (belA bR)
 refine range_none (gf:=108) (lb:=#[.pointer (some ⟨w8.heap.size,0,none⟩)]) rfl (fun args W=>by kernel_rfl) (fun l W hW=>back_none _ _ W (hA9.below hW)) ?_
 intro D W hD hB hK
 have HBW:=jH (jB HB9.out hB)
 clear hA9 HB9 hB
 go_wp2_with fail
 refine ⟨by simp,.inl ⟨_,_,rfl,run_takeDeferred hK,?_⟩⟩
 refine ⟨_,results_none rfl _ _ _,rfl,hKP.out _ _ _ HJ8.out (HBW.out.grown (grownBy_putObj' _ _ _) HBW.out.size (fun k e=>by cases e;simp only [World.size_alloc] at hD;omega)),(HKO8.out.trans (keepO_bel HBW.out)).trans (keepO_put hK)⟩
theorem Tryz.laidOut:laidOutB Tryz.prog=true:=by kernel_rfl
theorem Tryz.row36:(36:TypeId)<Tryz.prog.types.size:=of_decide_eq_true (by kernel_rfl)
theorem Tryz.wide36:(match Tryz.prog.underlying 36 with|some (.array _ _)|some (.struct _)=>true|_=>false)=true:=by rw [Tryz.underlying36]
theorem Tryz.keyed36:Keyed Tryz.prog 36:=Keyed.of_law (deep_law_laid Tryz.laidOut (m:=2) (by omega) Tryz.row36 (by kernel_rfl) Tryz.wide36)
theorem Tryz.key10:∃ kl,keyOf Tryz.prog 36 (.agg #[.int .i64 1,.int .i64 0])=some kl:=Option.isSome_iff_exists.1 (by kernel_rfl)
theorem Tryz.zero123 (w:World):(zeroValue 123).run Tryz.prog w=.ok (.agg #[]) w:=by kernel_rfl
abbrev MapE (W:World) (mb:Nat):Prop:=W.ownsMap (H:=Unit) Tryz.prog 36 unitElem mb 0 (.map [])
theorem MapE.bel {W W':World} {mb:Nat} (h:MapE W mb) (k:Below W.heap.size W W'):MapE W' mb:=by
 have hl:=h.lt
 obtain ⟨es,clock,hb,r⟩:=h
 exact ⟨es,clock,(k.block mb hl).trans hb,r⟩
def JF1 (w0:World) (b bm bt mb:Nat) (l:List (Int × Int)) (W:World):Prop:=JL w0 b l W∧(l=[]→At W bm (One (.map (some mb)) 122)∧At W bt (One (fnB 57 b) 88)∧MapE W mb)
theorem JL.map {w0:World} {b mb:Nat} {l:List (Int × Int)} {W W':World} (h:JL w0 b l W) (hm:W.grownBy W' (some mb)) (hmap:∀ cs t fz,W.heap[mb]?≠some (.cells cs t fz)) (hlo:w0.heap.size≤mb):JL w0 b l W':=by
 obtain ⟨v,h1,h2,h3,h4⟩:=h
 refine ⟨v,h1.grown hm (fun e=>?_),own_grow h2 hm (fun g hg e=>?_),h3.grown hm h3.size (fun k hk=>by cases hk;exact hlo),h4⟩
 ·injection e with e
  subst e
  exact hmap _ _ _ h1
 ·injection e with e
  subst e
  rcases h2.2 with ⟨e1,-⟩|⟨g',cap,cur,e1,-,hb,-⟩
  ·rw [e1] at hg;cases hg
  ·rw [e1] at hg
   cases hg
   exact hmap _ _ _ hb
theorem MapE.no {W:World} {mb:Nat} (h:MapE W mb):∀ cs t fz,W.heap[mb]?≠some (.cells cs t fz):=fun cs t fz e=>by
 obtain ⟨es,clock,hb,r⟩:=h
 rw [hb] at e
 cases e
theorem keepO_map {W W':World} {mb:Nat} (hn:∀ cs t fz,W.heap[mb]?≠some (.cells cs t fz)) (hg:W.grownBy W' (some mb)):KeepO W W':=fun i t cs h1 h2 hA=>hA.grown hg (fun e=>by
 injection e with e
 subst e
 exact hn _ _ _ hA)
theorem takeF (w0:World) (b bm bt mb:Nat) (hlo:w0.heap.size≤mb):TakeR 58 [.pointer (some ⟨bm,0,none⟩),.pointer (some ⟨bt,0,none⟩)] (fun l x=>l=[]∧x=(1,0)) w0 (JF1 w0 b bm bt mb) where
 enters:=fun args W=>by kernel_rfl
 keep:=fun l W W' ⟨h1,h2⟩ k=>⟨(takeL w0 b).keep l W W' h1 k,fun e=>⟨(h2 e).1.below k,(h2 e).2.1.below k,(h2 e).2.2.bel k⟩⟩
 bel:=fun l W ⟨h1,h2⟩=>(takeL w0 b).bel l W h1
 call:=by
  rintro l r s W ⟨rfl,e⟩ - - - - ⟨hJ,h2⟩
  cases e
  obtain ⟨hm,ht,hM⟩:=h2 rfl
  obtain ⟨kl,hkl⟩:=Tryz.key10
  show Calls Tryz.prog 58 #[.int .i64 1,.int .i64 0,.pointer (some ⟨bm,0,none⟩),.pointer (some ⟨bt,0,none⟩)] W _
  obtain ⟨m0,-⟩:=hm.one
  obtain ⟨t0,-⟩:=ht.one
  have hml:=hm.lt
  have htl:=ht.lt
  have HM:=jH hM
  have HT:=jH ht
  have HJ:=jH hJ
  clear h2 hm ht hM hJ
  have hne:Maps.has (DataW.map (H:=Unit) []) kl=false:=by kernel_rfl
  go_enter Tryz.func58,Tryz.ntmps58
  go_wp2_with (first
   | (at_lookup;refine wpList_lookup_own_unit _ rfl _ _ 122 rfl 36 123 Tryz.keyed36 Tryz.underlying122 (Tryz.zero123 _) mb 0 (DataW.map (H:=Unit) []) rfl (MapE.bel HM.out (belA bR)) _ kl rfl hkl ?_)
   | (at_mapUpdate;refine wpList_mapUpdate_own _ rfl _ _ _ 122 rfl 36 123 Tryz.keyed36 Tryz.underlying122 unitElem mb 0 (DataW.map (H:=Unit) []) rfl (MapE.bel HM.out (belA (belA bR))) (by unfold maxLen;omega) _ _ kl rfl rfl hkl _ [] unitElem_mk ?_;intro w1 hown1 hgrow1;have HNO:=jH (MapE.no (MapE.bel HM.out (belA (belA bR (o:=.cells #[.int .i64 1,.int .i64 0] 36)) (o:=.cells #[] 123))));have HJ1:=jH (JL.map (w0:=w0) ((takeL w0 b).keep _ _ _ HJ.out (belA (belA bR (o:=.cells #[.int .i64 1,.int .i64 0] 36)) (o:=.cells #[] 123))) hgrow1 HNO.out hlo);have HK1:=jH (keepO_map HNO.out hgrow1);obtain ⟨t0,-⟩:=At.one (HK1.out bt 88 _ (by decide) (by decide) ((HT.out.alloc (.cells #[.int .i64 1,.int .i64 0] 36)).alloc (.cells #[] 123)));have C57:=jH ((takeL w0 b).call [] 1 0 w1 (by decide) (by decide) (by decide) (by decide) (by decide) HJ1.out);clear hown1 hgrow1)
   | (go_at_call 57;refine C57.out.mono ?_;rintro e w2 ⟨rfl,hj,hk⟩;have HJ2:=jH hj;have HK2:=jH (keepO_two (HK1.out.trans hk));clear hj hk))
  go_end0
  exact ⟨rfl,⟨HJ2.out,fun h=>by cases h⟩,HK2.out⟩
theorem rngB0 {W:World} {b:Nat} (h:W.rangeAt b 0 (pC hv0)):W.cell? ⟨b,0,none⟩=some (.int .u8 4):=h 0 _ rfl
theorem tell_bor1 {fn:Nat} {R:List (Int × Int)→Int × Int→Prop} {w0:World} {J:List (Int × Int)→World→Prop} {b:Nat} (hT:TakeR fn [.pointer (some ⟨b,0,none⟩)] R w0 J) (l:List (Int × Int)) (hR:R l (1,0)) {bu bl br bn bp bq gL gA:Nat} {f:Nat→Fv} (hS:Scn w0 bu bl br bn bp bq gL gA f) (cL cA:Nat) (w:World) (hJ:J l w) :
  Calls Tryz.prog 32 #[scV bu bp gL cL gA cA,.int .i64 0,fnB fn b] w fun e w'=>e=.returned (.tuple #[])∧J (l++[(1,0)]) w'∧KeepO w w':=by
 have hBw:=hT.bel l w hJ
 have HS0:=jH (At.new w (scO bu bp gL cL gA cA))
 obtain ⟨s0,s1,s2,s3,s4,s5,s6,s7,s8⟩:=HS0.out.sc
 have hp:=(handB hS.h hBw).p
 have HRNG:=jH (rng_bel hp.lt (hand_pt (handB hS.h hBw) 0 hv0 rfl) (belA (Below.refl w.heap.size w) (o:=scO bu bp gL cL gA cA)))
 have CB:=jH (fun (V:World) (hV:Below w.heap.size w V)=>borrow1 hT l hR hS cL cA V (hT.keep l w V hJ hV))
 clear hp hS hT hJ hBw hR
 go_enter Tryz.func32,Tryz.ntmps32
 go_wp2_with (first
  | ((with_reducible show wpList _ _ _ (Oper.mk (some _) (Op.load 118 _) _ _ _ none::_) _ _);refine wpl_load64 bp 0 (pC hv0) rfl rfl HRNG.out Tryz.underlying118 rfl ?_)
  | ((with_reducible show wpList _ _ _ (Oper.mk none (Op.store 118 _ _) _ _ _ none::_) _ _);refine wpl_store64 (w.heap.size+1) (by simpa using there_new (w.alloc (scO bu bp gL cL gA cA)) _ _ 21 rfl) (by simp) hv0 rfl rfl ?_;intro w3 hr3 hl3 hb3;have HB3:=jH (belBut (belA (belA (Below.refl w.heap.size w))) hb3 (by omega) (by simp only [World.size_alloc];omega));have HS3:=jH ((HS0.out.alloc _).but hb3 (by omega));have t0:=rngB0 hr3;obtain ⟨s0,s1,s2,s3,s4,s5,s6,s7,s8⟩:=HS3.out.sc;have C3:=jH (CB.out w3 HB3.out);clear hr3 hl3 hb3)
  | (go_at_call 62;refine C3.out.mono ?_;rintro e w4 ⟨rfl,hj,hk⟩;have HJ4:=jH hj;have HK4:=jH ((keepO_bel HB3.out).trans hk);clear hj hk))
 go_end0
 exact ⟨rfl,HJ4.out,HK4.out⟩
theorem tell_bor2 {fn:Nat} {R:List (Int × Int)→Int × Int→Prop} {w0:World} {J:List (Int × Int)→World→Prop} {b b2:Nat} (hT:TakeR fn [.pointer (some ⟨b,0,none⟩),.pointer (some ⟨b2,0,none⟩)] R w0 J) (l:List (Int × Int)) (hR:R l (1,0)) {bu bl br bn bp bq gL gA:Nat} {f:Nat→Fv} (hS:Scn w0 bu bl br bn bp bq gL gA f) (cL cA:Nat) (w:World) (hJ:J l w) :
  Calls Tryz.prog 32 #[scV bu bp gL cL gA cA,.int .i64 0,fnC fn b b2] w fun e w'=>e=.returned (.tuple #[])∧J (l++[(1,0)]) w'∧KeepO w w':=by
 have hBw:=hT.bel l w hJ
 have HS0:=jH (At.new w (scO bu bp gL cL gA cA))
 obtain ⟨s0,s1,s2,s3,s4,s5,s6,s7,s8⟩:=HS0.out.sc
 have hp:=(handB hS.h hBw).p
 have HRNG:=jH (rng_bel hp.lt (hand_pt (handB hS.h hBw) 0 hv0 rfl) (belA (Below.refl w.heap.size w) (o:=scO bu bp gL cL gA cA)))
 have CB:=jH (fun (V:World) (hV:Below w.heap.size w V)=>borrow2 hT l hR hS cL cA V (hT.keep l w V hJ hV))
 clear hp hS hT hJ hBw hR
 go_enter Tryz.func32,Tryz.ntmps32
 go_wp2_with (first
  | ((with_reducible show wpList _ _ _ (Oper.mk (some _) (Op.load 118 _) _ _ _ none::_) _ _);refine wpl_load64 bp 0 (pC hv0) rfl rfl HRNG.out Tryz.underlying118 rfl ?_)
  | ((with_reducible show wpList _ _ _ (Oper.mk none (Op.store 118 _ _) _ _ _ none::_) _ _);refine wpl_store64 (w.heap.size+1) (by simpa using there_new (w.alloc (scO bu bp gL cL gA cA)) _ _ 21 rfl) (by simp) hv0 rfl rfl ?_;intro w3 hr3 hl3 hb3;have HB3:=jH (belBut (belA (belA (Below.refl w.heap.size w))) hb3 (by omega) (by simp only [World.size_alloc];omega));have HS3:=jH ((HS0.out.alloc _).but hb3 (by omega));have t0:=rngB0 hr3;obtain ⟨s0,s1,s2,s3,s4,s5,s6,s7,s8⟩:=HS3.out.sc;have C3:=jH (CB.out w3 HB3.out);clear hr3 hl3 hb3)
  | (go_at_call 62;refine C3.out.mono ?_;rintro e w4 ⟨rfl,hj,hk⟩;have HJ4:=jH hj;have HK4:=jH ((keepO_bel HB3.out).trans hk);clear hj hk))
 go_end0
 exact ⟨rfl,HJ4.out,HK4.out⟩
def tolL (i:Nat):List (Int × Int):=if i=0 then [] else [(1,0)]
theorem JF1.lt {w0:World} {b bm bt mb:Nat} {l:List (Int × Int)} {W:World} (h:JF1 w0 b bm bt mb l W):JL w0 b l W:=h.1
theorem tell_pt (w0:World) (b bm bt mb:Nat) (hlo:w0.heap.size≤mb) {bu bl br bn bp bq gL gA:Nat} {f:Nat→Fv} (hS:Scn w0 bu bl br bn bp bq gL gA f) (cL cA:Nat) (i:Nat) (hi:i<4) (w:World) (hJ:JF1 w0 b bm bt mb (tolL i) w) :
  Calls Tryz.prog 32 #[scV bu bp gL cL gA cA,.int .i64 (i:Int),fnC 58 bm bt] w fun e w'=>e=.returned (.tuple #[])∧JF1 w0 b bm bt mb (tolL (i+1)) w'∧KeepO w w':=by
 have hB:=(takeF w0 b bm bt mb hlo).bel _ w hJ
 have hs:Scn w bu bl br bn bp bq gL gA f:=⟨handB hS.h hB,fun i c hi=>⟨(hS.t i c hi).1.below hB,(hS.t i c hi).2.bel hB⟩,(hB.cell (p:=⟨gA,0,none⟩) hS.a.2).trans hS.a.1,Nat.lt_of_lt_of_le hS.a.2 hB.size⟩
 have rest:0<i→Calls Tryz.prog 32 #[scV bu bp gL cL gA cA,.int .i64 (i:Int),fnC 58 bm bt] w (fun e w'=>e=.returned (.tuple #[])∧Below w.heap.size w w')→Calls Tryz.prog 32 #[scV bu bp gL cL gA cA,.int .i64 (i:Int),fnC 58 bm bt] w fun e w'=>e=.returned (.tuple #[])∧JF1 w0 b bm bt mb (tolL (i+1)) w'∧KeepO w w':=fun hp h=>h.mono fun e w' ⟨h1,h2⟩=>⟨h1,by
  have:=(takeF w0 b bm bt mb hlo).keep _ w w' hJ h2
  rw [show tolL (i+1)=tolL i from by unfold tolL;rw [if_neg (by omega),if_neg (by omega)]]
  exact this,keepO_bel h2⟩
 match i,hi with
 | 0,_=>exact tell_bor2 (takeF w0 b bm bt mb hlo) [] ⟨rfl,rfl⟩ hS cL cA w hJ
 | 1,_ =>
  refine rest (by omega) ?_
  exact tell_use 1 (by omega) (hand_pt hs.h 1 (hv1) rfl) hs.h.p.lt (fun V hV=>typeOf_of (pl:=⟨1,none,0,0⟩) (fun _=>True) (fun U hU=>(way_nil ((hs.bel hV).bel hU) cL cA 1 (.leaf 1 0) rfl).mono fun e w' ⟨h1,h2⟩=>⟨f 1,_,h1,trivial,h2⟩)) _
 | 2,_ =>
  refine rest (by omega) ?_
  exact tell_use 2 (by omega) (hand_pt hs.h 2 (hv2 bq) rfl) hs.h.p.lt (fun V hV=>typeOf_of (pl:=⟨2,some ⟨bq,0,none⟩,1,1⟩) (fun _=>True) (fun U hU=>(way_to ((hs.bel hV).bel hU) cL cA).mono fun e w' ⟨x,v,h1,h2,h3⟩=>⟨x,v,h1,trivial,h3⟩)) _
 | 3,_ =>
  refine rest (by omega) ?_
  exact tell_ret 3 (by omega) (hand_pt hs.h 3 hv3 rfl) hs.h.p.lt _
 | i+4,hi=>omega
theorem once_any (w0:World) (b:Nat) {bu bl br bn bp bq gL gA:Nat} {f:Nat→Fv} (hS:Scn w0 bu bl br bn bp bq gL gA f) (cL cA:Nat) (w:World) (hJ:JL w0 b [] w) :
  Calls Tryz.prog 28 #[scV bu bp gL cL gA cA,fnB 57 b] w fun e w'=>e=.returned (.tuple #[])∧JL w0 b [(1,0)] w':=by
 obtain ⟨V,hV⟩:∃ V,V=(((w.alloc (scO bu bp gL cL gA cA)).alloc (One (fnB 57 b) 88)).alloc (.map #[] 0)).alloc (One (.map (some (w.heap.size+1+1))) 122):=⟨_,rfl⟩
 have hBv:Below w.heap.size w V:=by rw [hV];exact (belA (belA (belA (belA bR))))
 have hA0:At V w.heap.size (scO bu bp gL cL gA cA):=by rw [hV];exact (((At.new _ _).alloc _).alloc _).alloc _
 have hA1:At V (w.heap.size+1) (One (fnB 57 b) 88):=by rw [hV];exact ((at_snd _ _ _).alloc _).alloc _
 have hA3:At V (w.heap.size+1+1+1) (One (.map (some (w.heap.size+1+1))) 122):=by
  rw [hV]
  have:=At.new (((w.alloc (scO bu bp gL cL gA cA)).alloc (One (fnB 57 b) 88)).alloc (.map #[] 0)) (One (.map (some (w.heap.size+1+1))) 122)
  simpa only [World.size_alloc] using this
 have hM:MapE V (w.heap.size+1+1):=by
  rw [hV]
  have:=World.ownsMap_made (H:=Unit) ((w.alloc (scO bu bp gL cL gA cA)).alloc (One (fnB 57 b) 88)) Tryz.prog 36 unitElem
  simp only [World.size_alloc] at this
  exact MapE.bel this (belA bR)
 have hwb:=((takeL w0 b).bel _ _ hJ).size
 have hJ0:JF1 w0 b (w.heap.size+1+1+1) (w.heap.size+1) (w.heap.size+1+1) (tolL 0) V:=⟨(takeL w0 b).keep _ _ _ hJ hBv,fun _=>⟨hA3,hA1,hM⟩⟩
 have HJ0:=jH hJ0
 have HA0:=jH hA0
 have hlo:w0.heap.size≤w.heap.size+1+1:=by omega
 have CP:=jH (fun (i:Nat) (hi:i<4) (U:World) (hU:JF1 w0 b (w.heap.size+1+1+1) (w.heap.size+1) (w.heap.size+1+1) (tolL i) U)=>tell_pt w0 b _ _ _ hlo hS cL cA i hi U hU)
 obtain ⟨s0,s1,s2,s3,s4,s5,s6,s7,s8⟩:=hA0.sc
 have hmm:=@run_makeMap Tryz.prog
 clear hA0 hA1 hA3 hM hwb hJ0 hlo hS hJ hBv
 go_enter Tryz.func28,Tryz.ntmps28
 go_upto_region 2 with fail
 change Code.wp _ _ _ _ ((((w.alloc (scO bu bp gL cL gA cA)).alloc (One (fnB 57 b) 88)).alloc (.map #[] 0)).alloc (One (.map (some (w.heap.size+1+1))) 122))
 rw [← hV]
 clear hV
 go_wp2_with fail
 clear s0 s1 s2 s3 s4 s5 s6 s7 s8
 go_loopw [12] (fun v U=>∃ i:Nat,i≤4∧v=.int .i64 (i:Int)∧JF1 w0 b (w.heap.size+1+1+1) (w.heap.size+1) (w.heap.size+1+1) (tolL i) U∧At U w.heap.size (scO bu bp gL cL gA cA)) (fun v _=>4 - (intOf v).toNat)
 case atStart=>exact ⟨0,by omega,rfl,HJ0.out,HA0.out⟩
 case round =>
  obtain ⟨i,hi,rfl,hj,hA⟩:=hrel
  by_cases hlt:i<4
  ·have CI:=jH (CP.out i hlt wr hj)
   have HA:=jH hA
   obtain ⟨s0,s1,s2,s3,s4,s5,s6,s7,s8⟩:=hA.sc
   have i0:(0:Int)≤(i:Int):=by omega
   have i1:(i:Int)<4:=by omega
   have HLT:=jH hlt
   clear hA hj hlt hi
   go_wp2_with (go_at_call 32;refine CI.out.mono ?_;rintro e w3 ⟨rfl,hj,hk⟩;have HJ3:=jH hj;have HA3:=jH (hk _ 79 _ (by decide) (by decide) HA.out);clear hj hk)
   exact ⟨⟨i+1,HLT.out,rfl,HJ3.out,HA3.out⟩,by have:=HLT.out;show 4 - ((i:Int)+1).toNat<4 - (i:Int).toNat;omega⟩
  ·obtain rfl:i=4:=by omega
   have HJ4:=jH hj.1
   clear hj hA hlt hi
   go_wp2_with fail
   go_end0
   exact ⟨rfl,HJ4.out⟩
end Go.Proofs.YtmjenlogbkbgnaaGreatDoor
