import Derived.Test.YtmjenlogbkbgnaaGreatDoorC00
import Derived.RangeFuncFrom
import Derived.BigQuiet
namespace Go.Proofs.YtmjenlogbkbgnaaGreatDoor
open Go.RowKit Go.Shelf
set_option linter.unusedVariables false
set_option linter.unusedSimpArgs false
set_option maxRecDepth 100000
set_option maxHeartbeats 4000000
theorem range_none {P:Program} {g:Operand} {ps:Array Tmp} {assign body:Code} {Q:Exit→Act→World→Prop} {a:Act} {w:World}
  {gf:Nat} {lb:Array Value} (hg:a.eval g=.func (.func gf) #[] lb) (eg:∀ args w,(callFunc gf args).run P w=.ok (.enter gf args) w)
  (hcall:∀ l W,Below w.heap.size w W→Calls P gf (#[.func (.yield l) #[] #[]]++lb) W fun e W'=>(∃ v,e=.returned v)∧W'=W)
  (hdone:∀ (D:Nat) (W:World),w.heap.size≤D→Below w.heap.size w W→W.heap[D]?=some (.deferred (some []))→Q .normal { a with defers:={ target:=.collected D,args:=#[] }::a.defers } W) :
  (Code.rangeFunc g ps assign body).wp P Q a w:=by
 refine (wpIn_wide (n:=3)).1 ?_
 apply wpIn_rangeFunc
 intro me hme
 generalize hR:(fun (st:LoopState) (pe:Option Code)=>({ state:=st,pending:=pe,fn:=me,tmps:=a.tmps,params:=ps,assign,body,defers:=w.heap.size }:Loop))=R
 have hRf:∀ st pe,R st pe={ state:=st,pending:=pe,fn:=me,tmps:=a.tmps,params:=ps,assign,body,defers:=w.heap.size }:=fun st pe=>by rw [← hR]
 generalize hV:(w.alloc (.deferred (some []))).alloc (.loop (R .ready none))=V
 have hVs:V.heap.size=w.heap.size+2:=by rw [← hV];simp
 have hVb:Below w.heap.size w V:=by rw [← hV];exact ((Below.refl _ w).alloc (Nat.le_refl _) _).alloc (by simp) _
 have hVL:V.heap[w.heap.size+1]?=some (.loop (R .ready none)):=by
  rw [← hV]
  simpa using World.alloc_heap_new (w.alloc (.deferred (some []))) (.loop (R .ready none))
 have hVD:V.heap[w.heap.size]?=some (.deferred (some [])):=by
  rw [← hV,Below.heap_alloc _ _ _ (by simp)]
  exact World.alloc_heap_new w _
 refine ⟨w.heap.size+1,[⟨.collected w.heap.size,#[]⟩],V,⟨.fn (.func gf) lb,#[.func (.yield (w.heap.size+1)) #[] #[]]⟩,V,gf,#[.func (.yield (w.heap.size+1)) #[] #[]]++lb,V,?_,?_,?_,?_,fun _=>by omega,?_⟩
 ·rw [← hV,← hR];exact run_enterLoop_outer _ _ _ _ _
 ·simp only [resolve,hg]
  simp [go_sem]
 ·intro f' hf'
  trivial
 ·simp [invoke,go_sem,eg]
 refine (callsIn_wide.2 (hcall (w.heap.size+1) V hVb)).mono ?_
 rintro e W2 ⟨⟨v,rfl⟩,rfl⟩
 have e:=run_endLoop (P:=P) hVL (by rw [hRf];simp)
 rw [hRf] at e
 exact ⟨none,_,e,hdone _ _ (Nat.le_refl _) (hVb.grown (grownBy_putObj' _ _ _) hVb.size (fun k e=>by cases e;omega)) ((World.putObj_heap_other (by omega)).trans hVD)⟩
abbrev scC (bu bp gL cL gA cA:Nat):Array Value:=#[.slice none 0 0,.slice (some ⟨bu,0,none⟩) 1 1,.int .i64 0,.slice (some ⟨bp,0,none⟩) 4 4,.int .i64 0,.int .i64 4,.int .i64 2,.slice (some ⟨gL,0,none⟩) 3 cL,.slice (some ⟨gA,0,none⟩) 4 cA]
abbrev scV (bu bp gL cL gA cA:Nat):Value:=.agg (scC bu bp gL cL gA cA)
abbrev scO (bu bp gL cL gA cA:Nat):Obj:=.cells (scC bu bp gL cL gA cA) 79 (0,0)
theorem At.sc {W:World} {b bu bp gL cL gA cA:Nat} (h:At W b (scO bu bp gL cL gA cA)) :
  W.cell? ⟨b,0,none⟩=some (.slice none 0 0)∧W.cell? ⟨b,1,none⟩=some (.slice (some ⟨bu,0,none⟩) 1 1)∧W.cell? ⟨b,2,none⟩=some (.int .i64 0)∧W.cell? ⟨b,3,none⟩=some (.slice (some ⟨bp,0,none⟩) 4 4)∧W.cell? ⟨b,4,none⟩=some (.int .i64 0)∧W.cell? ⟨b,5,none⟩=some (.int .i64 4)∧W.cell? ⟨b,6,none⟩=some (.int .i64 2)∧W.cell? ⟨b,7,none⟩=some (.slice (some ⟨gL,0,none⟩) 3 cL)∧W.cell? ⟨b,8,none⟩=some (.slice (some ⟨gA,0,none⟩) 4 cA):=by
 unfold At at h
 refine ⟨?_,?_,?_,?_,?_,?_,?_,?_,?_⟩ <;> simp [World.cell?,h]
theorem at_two' {W:World} {b:Nat} {l:Int} {a:Option Addr} {n cap:Nat} (h:At W b (plO l a n cap)):W.cell? ⟨b,0,none⟩=some (.int .i64 l)∧W.cell? ⟨b,1,none⟩=some (.slice a n cap):=by
 unfold At at h
 exact ⟨by simp [World.cell?,h],by simp [World.cell?,h]⟩
def zL:List Ch:=[.leaf 1 0,.leaf 1 0,.ref true 0 (.leaf 1 0)]
structure Scn (W:World) (bu bl br bn bp bq gL gA:Nat) (f:Nat→Fv):Prop where
 h:HandAt W bu bl br bn bp bq
 t:∀ i c,zL[i]?=some c→C5 W gL (i*5) (f i)∧TyAt W (f i) c.ty
 a:W.cell? ⟨gA,0,none⟩=some (.int .i64 1)∧gA<W.heap.size
theorem Scn.bel {W W':World} {bu bl br bn bp bq gL gA:Nat} {f:Nat→Fv} (h:Scn W bu bl br bn bp bq gL gA f) (k:Below W.heap.size W W'):Scn W' bu bl br bn bp bq gL gA f :=
 ⟨h.h.bel k,fun i c hi=>⟨(h.t i c hi).1.below k,(h.t i c hi).2.bel k⟩,(k.cell (p:=⟨gA,0,none⟩) h.a.2).trans h.a.1,Nat.lt_of_lt_of_le h.a.2 k.size⟩
theorem Tryz.results87:Tryz.f87.results=#[.cell 4 43,.tmp 5]:=rfl
theorem Tryz.results61:Tryz.f61.results=#[.cell 4 43]:=rfl
theorem results_ct {fn:Func} {i j:Nat} (h:fn.results=#[.cell i 43,.tmp j]) {tmps:Array Value} {W:World} {b4:Nat} {g:Fv} {v:Value} (ht:tmps.getD i undef=.pointer (some ⟨b4,0,none⟩)) (hv:tmps.getD j undef=v) (hC:C5 W b4 0 g):(results fn tmps).run Tryz.prog W=.ok (.tuple #[g.v,v]) W:=by
 obtain ⟨hl,e0,e1,e2,e3,e4⟩:=hC
 have ht2:tmps[i]?.getD undef=.pointer (some ⟨b4,0,none⟩):=by rw [← ht];simp
 have hv2:tmps[j]?.getD undef=v:=by rw [← hv];simp
 simp only [Nat.zero_add] at e0 e1 e2 e3 e4
 simp only [results,h]
 simp [go_sem,ht2,hv2,e0,e1,e2,e3,e4]
theorem way_nil {w:World} {bu bl br bn bp bq gL gA:Nat} {f:Nat→Fv} (h:Scn w bu bl br bn bp bq gL gA f) (cL cA:Nat) (i:Nat) (c:Ch) (hi:zL[i]?=some c) :
  Calls Tryz.prog 87 #[scV bu bp gL cL gA cA,plV (i:Int) none 0 0] w fun e w'=>e=.returned (.tuple #[(f i).v,.slice none 0 0])∧Below w.heap.size w w':=by
 obtain ⟨hc,-⟩:=h.t i c hi
 have hi3:i<3:=(List.getElem?_eq_some_iff.1 hi).1
 obtain ⟨V,hV⟩:∃ V,V=((w.alloc (scO bu bp gL cL gA cA)).alloc (plO (i:Int) none 0 0)).alloc zT.o:=⟨_,rfl⟩
 have A0:At V w.heap.size (scO bu bp gL cL gA cA):=by rw [hV];exact ((At.new _ _).alloc _).alloc _
 have A1:At V (w.heap.size+1) (plO (i:Int) none 0 0):=by rw [hV];exact (at_snd _ _ _).alloc _
 have A2:At V (w.heap.size+1+1) zT.o:=by rw [hV];exact (three_new _ _ _ _).2.2
 have HB:Hid (Below w.heap.size w V):=by rw [hV];exact belA (belA (belA bR))
 obtain ⟨-,-,-,-,-,-,-,c7,-⟩:=A0.sc
 obtain ⟨d0,d1⟩:=at_two' A1
 have HA2:=jH A2
 have HA1x:=jH A1
 obtain ⟨x,hx⟩:∃ x,x=f i:=⟨_,rfl⟩
 rw [← hx] at hc ⊢
 obtain ⟨xk,xm,xr,xs,xa,xn,xc⟩:=x
 obtain ⟨hg,p0,p1,p2,p3,p4⟩:=hc.below HB.out
 have i0:(0:Int)≤(i:Int):=by omega
 have i1:(i:Int)<3:=by omega
 have hw:w.heap.size≤w.heap.size+1+1:=by omega
 clear h hc hx A0 A1 A2 hi
 go_enter Tryz.func87,Tryz.ntmps87
 go_upto_region 1 with fail
 change Code.wp _ _ _ _ (((w.alloc (scO bu bp gL cL gA cA)).alloc (plO (i:Int) none 0 0)).alloc zT.o)
 rw [← hV]
 clear hV
 go_wp2_with (refine wpl_storeT1 (w.heap.size+1+1) zT ⟨xk,xm,xr,xs,xa,xn,xc⟩ HA2.out rfl rfl ?_;intro w1 ha1 hb1;have HB1:=jH (belBut HB.out hb1 hw HB.out.size);have HA1:=jH ha1;obtain ⟨d1,d2⟩:=at_two' (HA1x.out.but hb1 (by omega));clear hb1 ha1)
 obtain ⟨-,e0,e1,e2,e3,e4⟩:=HA1.out.ty
 simp only [Nat.zero_add] at e0 e1 e2 e3 e4
 clear c7 d0 p0 p1 p2 p3 p4 d1 d2
 go_loopw [5,18] (fun v5 v V=>v5=.slice none 0 0∧v=.int .i64 0∧V=w1) (fun _ _ _=>0)
 case atStart=>exact ⟨rfl,rfl,rfl⟩
 case round =>
  obtain ⟨rfl,rfl,rfl⟩:=hrel
  go_wp2_with (refine wpl_storeT1 (w.heap.size+1+1) ⟨xk,xm,xr,xs,xa,xn,xc⟩ ⟨xk,xm,xr,xs,xa,xn,xc⟩ HA1.out rfl rfl ?_;intro w2 ha1 hb1;have HB2:=jH (belBut HB1.out hb1 hw HB1.out.size);have HA3:=jH ha1;clear ha1 hb1)
  exact bodyPost_ret (results_ct (g:=⟨xk,xm,xr,xs,xa,xn,xc⟩) Tryz.results87 rfl rfl HA3.out.ty) rfl ⟨rfl,HB2.out⟩
theorem way_to {w:World} {bu bl br bn bp bq gL gA:Nat} {f:Nat→Fv} (h:Scn w bu bl br bn bp bq gL gA f) (cL cA:Nat) :
  Calls Tryz.prog 87 #[scV bu bp gL cL gA cA,plV 2 (some ⟨bq,0,none⟩) 1 1] w fun e w'=>∃ (x:Fv) (v:Value),e=.returned (.tuple #[x.v,v])∧TyAt w x (Ch.leaf 1 0).ty∧Below w.heap.size w w':=by
 obtain ⟨hc,hty⟩:=h.t 2 (.ref true 0 (.leaf 1 0)) rfl
 have hq:=h.h.q
 obtain ⟨V,hV⟩:∃ V,V=((w.alloc (scO bu bp gL cL gA cA)).alloc (plO 2 (some ⟨bq,0,none⟩) 1 1)).alloc zT.o:=⟨_,rfl⟩
 have A0:At V w.heap.size (scO bu bp gL cL gA cA):=by rw [hV];exact ((At.new _ _).alloc _).alloc _
 have A1:At V (w.heap.size+1) (plO 2 (some ⟨bq,0,none⟩) 1 1):=by rw [hV];exact (at_snd _ _ _).alloc _
 have A2:At V (w.heap.size+1+1) zT.o:=by rw [hV];exact (three_new _ _ _ _).2.2
 have HB:Hid (Below w.heap.size w V):=by rw [hV];exact belA (belA (belA bR))
 obtain ⟨-,-,-,-,-,-,-,c7,-⟩:=A0.sc
 obtain ⟨d0,d1⟩:=at_two' A1
 have HA2:=jH A2
 have HA1x:=jH A1
 obtain ⟨x,hx⟩:∃ x,x=f 2:=⟨_,rfl⟩
 rw [← hx] at hc hty
 obtain ⟨g,off,cap,y,ex,hy5,hyt,-,-⟩:=hty.ref
 subst ex
 obtain ⟨hg,p0,p1,p2,p3,p4⟩:=hc.below HB.out
 have HQ:=jH hq
 have HY:=jH hy5
 have HYT:=jH hyt
 obtain ⟨i0,hi0,hz0,hz1,hz2⟩:=info_parts Tryz.info43
 obtain ⟨yk,ym,yr,ys,ya,yn,yc⟩:=y
 have hw:w.heap.size≤w.heap.size+1+1:=by omega
 clear h hc hx A0 A1 A2 hq hty hy5 hyt
 go_enter Tryz.func87,Tryz.ntmps87
 go_upto_region 1 with fail
 change Code.wp _ _ _ _ (((w.alloc (scO bu bp gL cL gA cA)).alloc (plO 2 (some ⟨bq,0,none⟩) 1 1)).alloc zT.o)
 rw [← hV]
 clear hV
 go_wp2_with (refine wpl_storeT1 (w.heap.size+1+1) zT ⟨4,true,0,0,some ⟨g,off,none⟩,1,cap⟩ HA2.out rfl rfl ?_;intro w1 ha1 hb1;have HB1:=jH (belBut HB.out hb1 hw HB.out.size);have HA1:=jH ha1;obtain ⟨d1,d2⟩:=at_two' (HA1x.out.but hb1 (by omega));clear hb1 ha1)
 obtain ⟨-,e0,e1,e2,e3,e4⟩:=HA1.out.ty
 simp only [Nat.zero_add] at e0 e1 e2 e3 e4
 clear c7 d0 p0 p1 p2 p3 p4 d1 d2
 go_loopw [5,18] (fun v5 v V=>(v5=.slice none 0 0∧v=.int .i64 0∧V=w1)∨(v=.int .i64 1∧At V (w.heap.size+1+1) (Fv.o ⟨yk,ym,yr,ys,ya,yn,yc⟩)∧Below w.heap.size w V)) (fun _ v _=>1 - (intOf v).toNat)
 case atStart=>exact .inl ⟨rfl,rfl,rfl⟩
 case round =>
  rcases hrel with ⟨rfl,rfl,rfl⟩|⟨rfl,hA,hB⟩
  ·have q0:wr.cell? ⟨bq,0,none⟩=some (.int .i64 (-1)):=cell_of_one (HQ.out.below HB1.out)
   obtain ⟨hg,p0,p1,p2,p3,p4⟩:=HY.out.below HB1.out
   have hsz:=HB1.out.size
   go_wp2_with (first
    | (at_builtin;refine wpList_append_own _ rfl _ _ 41 rfl w.heap.size 43 i0 _ 5 48 Tryz.underlying41 hi0 hz0 hz1 hz2 rfl (by decide) (.slice none 0 0) 0 [] rfl (World.ownsRow_nil _ _ _ _) ⟨wr.heap.size,0,none⟩ 1 1 (t5 ⟨4,true,0,0,some ⟨g,off,none⟩,1,cap⟩) rfl rfl (t5_new (At.new wr (Fv.o ⟨4,true,0,0,some ⟨g,off,none⟩,1,cap⟩))) (t5_ones _) (by unfold maxLen;omega) (by omega) (by simp only [World.size_alloc];omega) ?_;intro v' w5 ho hgr hn;have HB5:=jH (bel_nil (belA HB1.out) hgr (by simp only [World.size_alloc];omega));have HA5:=jH ((HA1.out.alloc (Fv.o ⟨4,true,0,0,some ⟨g,off,none⟩,1,cap⟩)).grown hgr (by simp [Value.ownBlock]));obtain ⟨-,p0,p1,p2,p3,p4⟩:=HY.out.below HB5.out;obtain ⟨-,e0,e1,e2,e3,e4⟩:=HA5.out.ty;simp only [Nat.zero_add] at e0 e1 e2 e3 e4;obtain ⟨a6,c6,ev⟩:=own_sl ho;subst ev;clear ho hgr hn)
    | (refine wpl_storeT1 (w.heap.size+1+1) ⟨4,true,0,0,some ⟨g,off,none⟩,1,cap⟩ ⟨yk,ym,yr,ys,ya,yn,yc⟩ HA5.out rfl rfl ?_;intro w2 ha1 hb1;have HB6:=jH (belBut HB5.out hb1 hw HB5.out.size);have HA6:=jH ha1;clear ha1 hb1))
   exact ⟨.inr ⟨rfl,HA6.out,HB6.out⟩,by decide⟩
  ·have HA:=jH hA
   have HBq:=jH hB
   obtain ⟨-,e0,e1,e2,e3,e4⟩:=hA.ty
   simp only [Nat.zero_add] at e0 e1 e2 e3 e4
   clear hA hB
   go_wp2_with (refine wpl_storeT1 (w.heap.size+1+1) ⟨yk,ym,yr,ys,ya,yn,yc⟩ ⟨yk,ym,yr,ys,ya,yn,yc⟩ HA.out rfl rfl ?_;intro w2 ha1 hb1;have HB2:=jH (belBut HBq.out hb1 hw HBq.out.size);have HA3:=jH ha1;clear ha1 hb1)
   exact bodyPost_ret (results_ct (g:=⟨yk,ym,yr,ys,ya,yn,yc⟩) Tryz.results87 rfl rfl HA3.out.ty) rfl ⟨_,_,rfl,HYT.out,HB2.out⟩
theorem typeOf_of {w:World} {bu bp gL cL gA cA:Nat} {pl:Pt} (Pr:Fv→Prop) (C:∀ V,Below w.heap.size w V→Calls Tryz.prog 87 #[scV bu bp gL cL gA cA,pl.v] V fun e w'=>∃ (x:Fv) (v:Value),e=.returned (.tuple #[x.v,v])∧Pr x∧Below V.heap.size V w') :
  Calls Tryz.prog 61 #[scV bu bp gL cL gA cA,pl.v] w fun e w'=>∃ x:Fv,e=.returned x.v∧Pr x∧Below w.heap.size w w':=by
 obtain ⟨pl,pa,pn,pc⟩:=pl
 obtain ⟨V,hV⟩:∃ V,V=((w.alloc (scO bu bp gL cL gA cA)).alloc (plO pl pa pn pc)).alloc zT.o:=⟨_,rfl⟩
 have A0:At V w.heap.size (scO bu bp gL cL gA cA):=by rw [hV];exact ((At.new _ _).alloc _).alloc _
 have A1:At V (w.heap.size+1) (plO pl pa pn pc):=by rw [hV];exact (at_snd _ _ _).alloc _
 have A2:At V (w.heap.size+1+1) zT.o:=by rw [hV];exact (three_new _ _ _ _).2.2
 have HB:Hid (Below w.heap.size w V):=by rw [hV];exact belA (belA (belA bR))
 obtain ⟨c0,c1,c2,c3,c4,c5,c6,c7,c8⟩:=A0.sc
 obtain ⟨d0,d1⟩:=at_two' A1
 have HA2:=jH A2
 have HC:=jH (C V HB.out)
 have hw:w.heap.size≤w.heap.size+1+1:=by omega
 have hVs:V.heap.size=w.heap.size+1+1+1:=by rw [hV];simp
 have HVS:=jH hVs
 clear C A0 A1 A2 hVs
 go_enter Tryz.func61,Tryz.ntmps61
 go_upto_region 1 with fail
 change Code.wp _ _ _ _ (((w.alloc (scO bu bp gL cL gA cA)).alloc (plO pl pa pn pc)).alloc zT.o)
 rw [← hV]
 clear hV
 go_wp2_with (first
  | (go_at_call 87;refine HC.out.mono ?_;rintro e w1 ⟨⟨xk,xm,xr,xs,xa,xn,xc⟩,v,rfl,hp,hb⟩;have HP:=jH hp;have HB1:=jH (jB HB.out hb);have HA3:=jH (HA2.out.below hb);have hsz1:V.heap.size≤w1.heap.size:=hb.size;clear hb hp)
  | (refine wpl_storeT1 w1.heap.size zT ⟨xk,xm,xr,xs,xa,xn,xc⟩ (At.new w1 zT.o) rfl rfl ?_;intro w2 ha1 hb1;have HB2:=jH (belBut (belA HB1.out) hb1 HB1.out.size (by have:=HB1.out.size;simp only [World.size_alloc];omega));have HA4:=jH ((HA3.out.alloc zT.o).but hb1 (by have:=HVS.out;omega));obtain ⟨-,e0,e1,e2,e3,e4⟩:=ha1.ty;simp only [Nat.zero_add] at e0 e1 e2 e3 e4;clear ha1 hb1)
  | (refine wpl_storeT1 (w.heap.size+1+1) zT ⟨xk,xm,xr,xs,xa,xn,xc⟩ HA4.out rfl rfl ?_;intro w3 ha1 hb1;have HB3:=jH (belBut HB2.out hb1 hw HB2.out.size);have HA5:=jH ha1;clear ha1 hb1))
 exact bodyPost_ret (results_c1 (g:=⟨xk,xm,xr,xs,xa,xn,xc⟩) Tryz.results61 rfl HA5.out.ty) rfl ⟨_,rfl,HP.out,HB3.out⟩
theorem lay_const {w:World} {bu bp gL cL gA cA:Nat} (n l:Int) (a:Option Addr) (m cap:Nat) (f:Fv) (tv:Value) :
  Calls Tryz.prog 60 #[scV bu bp gL cL gA cA,oV 1 n l a m cap,f.v,tv] w fun e w'=>e=.returned (.tuple #[])∧Below w.heap.size w w':=by
 obtain ⟨xk,xm,xr,xs,xa,xn,xc⟩:=f
 go_enter Tryz.func60,Tryz.ntmps60
 go_wp2_with fail
 go_end0
 exact ⟨rfl,belA (belA (belA bR))⟩
theorem hand_pt {W:World} {bu bl br bn bp bq:Nat} (h:HandAt W bu bl br bn bp bq) (q:Nat) (v:Pv) (hq:[hv0,hv1,hv2 bq,hv3][q]?=some v):W.rangeAt bp (q*21) (pC v):=by
 refine at_rng h.p _ _ (fun j x hj=>?_)
 have hj2:=(List.getElem?_eq_some_iff.1 hj).1
 have l0:(pC hv0).length=21:=rfl
 have l1:(pC hv1).length=21:=rfl
 have l2:(pC (hv2 bq)).length=21:=rfl
 have l3:(pC hv3).length=21:=rfl
 match q,hq with
 | 0,hq =>
  simp at hq;subst hq
  rw [List.append_assoc,List.append_assoc,Nat.zero_mul,Nat.zero_add,List.getElem?_append_left hj2];exact hj
 | 1,hq =>
  simp at hq;subst hq
  rw [List.append_assoc,List.append_assoc,List.getElem?_append_right (by omega),List.getElem?_append_left (by omega),show 1*21+j - (pC hv0).length=j by omega];exact hj
 | 2,hq =>
  simp at hq;subst hq
  rw [List.append_assoc,List.getElem?_append_right (by simp only [List.length_append];omega),List.getElem?_append_left (by simp only [List.length_append];omega),show 2*21+j - (pC hv0++pC hv1).length=j by simp only [List.length_append];omega];exact hj
 | 3,hq =>
  simp at hq;subst hq
  rw [List.getElem?_append_right (by simp only [List.length_append];omega),show 3*21+j - (pC hv0++pC hv1++pC (hv2 bq)).length=j by simp only [List.length_append];omega];exact hj
 | q+4,hq=>simp at hq
theorem rng7 {W:World} {b:Nat} {tl:Int} {ta:Option Addr} {tn tc:Nat} {an nx:Int} (h:W.rangeAt b 0 (pC ⟨1,⟨tl,ta,tn,tc⟩,⟨1,an,zP⟩,zO,none,0,0,ByteArray.empty,zP,false,0,0,nx,0,0⟩)) :
  W.cell? ⟨b,0,none⟩=some (.int .u8 1)∧W.cell? ⟨b,1,none⟩=some (.int .i64 tl)∧W.cell? ⟨b,2,none⟩=some (.slice ta tn tc)∧W.cell? ⟨b,3,none⟩=some (.int .u8 1)∧W.cell? ⟨b,4,none⟩=some (.int .i64 an)∧W.cell? ⟨b,5,none⟩=some (.int .i64 0)∧W.cell? ⟨b,6,none⟩=some (.slice none 0 0) :=
 ⟨h 0 _ rfl,h 1 _ rfl,h 2 _ rfl,h 3 _ rfl,h 4 _ rfl,h 5 _ rfl,h 6 _ rfl⟩
theorem tell_use {w:World} {bu bp gL cL gA cA:Nat} (q:Nat) (hq4:q<4) {tl:Int} {ta:Option Addr} {tn tc:Nat} {an nx:Int} (hr:w.rangeAt bp (q*21) (pC ⟨1,⟨tl,ta,tn,tc⟩,⟨1,an,zP⟩,zO,none,0,0,ByteArray.empty,zP,false,0,0,nx,0,0⟩)) (hbp:bp<w.heap.size)
  (C:∀ V,Below w.heap.size w V→Calls Tryz.prog 61 #[scV bu bp gL cL gA cA,plV tl ta tn tc] V fun e w'=>∃ x:Fv,e=.returned x.v∧True∧Below V.heap.size V w') (tv:Value) :
  Calls Tryz.prog 32 #[scV bu bp gL cL gA cA,.int .i64 (q:Int),tv] w fun e w'=>e=.returned (.tuple #[])∧Below w.heap.size w w':=by
 have HS0:=jH (At.new w (scO bu bp gL cL gA cA))
 obtain ⟨s0,s1,s2,s3,s4,s5,s6,s7,s8⟩:=HS0.out.sc
 have HRNG:=jH (rng_bel hbp hr (belA (Below.refl w.heap.size w) (o:=scO bu bp gL cL gA cA)))
 have q0:(0:Int)≤(q:Int):=by omega
 have q1:(q:Int)<4:=by omega
 have HC:=jH C
 clear hr C hq4
 go_enter Tryz.func32,Tryz.ntmps32
 go_upto_region 4 with (first
  | ((with_reducible show wpList _ _ _ (Oper.mk (some _) (Op.load 118 _) _ _ _ none::_) _ _);refine wpl_load64 bp (q*21) (pC ⟨1,⟨tl,ta,tn,tc⟩,⟨1,an,zP⟩,zO,none,0,0,ByteArray.empty,zP,false,0,0,nx,0,0⟩) rfl rfl HRNG.out Tryz.underlying118 rfl ?_)
  | ((with_reducible show wpList _ _ _ (Oper.mk none (Op.store 118 _ _) _ _ _ none::_) _ _);refine wpl_store64 (w.heap.size+1) (by simpa using there_new (w.alloc (scO bu bp gL cL gA cA)) _ _ 21 rfl) (by simp) ⟨1,⟨tl,ta,tn,tc⟩,⟨1,an,zP⟩,zO,none,0,0,ByteArray.empty,zP,false,0,0,nx,0,0⟩ rfl rfl ?_;intro w3 hr3 hl3 hb3;have HRP:=jH hr3;have HLT:=jH hl3;have HB3:=jH (belBut (belA (belA (Below.refl w.heap.size w))) hb3 (by omega) (by simp only [World.size_alloc];omega));have HS3:=jH ((HS0.out.alloc _).but hb3 (by omega));obtain ⟨t0,t1,t2,t3,t4,t5,t6⟩:=rng7 hr3;clear hr3 hl3 hb3))
 clear t0 t1 t2 t3 t4 t5 t6 s0 s1 s2 s3 s4 s5 s6 s7 s8
 refine beginH (S:=fun V=>Below w3.heap.size w3 V) (fun _ _ _ _ _ h=>h) (by kernel_rfl) (belN bR 1) (fun hq hH=>?_)
 refine tq 0 16 (scV bu bp gL cL gA cA) hq rfl rfl (fun W hSw=>by (obtain ⟨s0,s1,s2,s3,s4,s5,s6,s7,s8⟩:=(HS3.out.below hSw).sc;go_simp;try rfl)) hH ?_
 simp only [pb,pc]
 refine tz 1 17 (.pointer (some ⟨w.heap.size+1,3,none⟩)) hq rfl rfl hH ?_
 simp only [pb,pc]
 refine tq 2 18 (oV 1 an 0 none 0 0) hq rfl rfl (fun W hSw=>by (obtain ⟨t0,t1,t2,t3,t4,t5,t6⟩:=rng7 (rng_bel HLT.out HRP.out hSw);go_simp;try rfl)) hH ?_
 simp only [pb,pc]
 refine tq 3 19 (scV bu bp gL cL gA cA) hq rfl rfl (fun W hSw=>by (obtain ⟨s0,s1,s2,s3,s4,s5,s6,s7,s8⟩:=(HS3.out.below hSw).sc;go_simp;try rfl)) hH ?_
 simp only [pb,pc]
 refine tz 4 20 (.pointer (some ⟨w.heap.size+1,1,none⟩)) hq rfl rfl hH ?_
 simp only [pb,pc]
 refine tq 5 21 (plV tl ta tn tc) hq rfl rfl (fun W hSw=>by (obtain ⟨t0,t1,t2,t3,t4,t5,t6⟩:=rng7 (rng_bel HLT.out HRP.out hSw);go_simp;try rfl)) hH ?_
 simp only [pb,pc]
 refine tz 7 23 (tv) hq rfl rfl hH ?_
 simp only [pb,pc]
 refine aR1 6 rfl (fun K hK=>?_)
 have C1:=jH (HC.out _ (belN HB3.out 1))
 go_simp
 refine C1.out.mono ?_
 rintro e w4 ⟨x,rfl,-,hb⟩
 obtain ⟨xk,xm,xr,xs,xa,xn,xc⟩:=x
 have HB4:=jH (jB (belN HB3.out 1) hb)
 have hS4:Below w3.heap.size w3 w4:=jB (belN bR 1) hb
 clear hb C1
 go_wp2_with fail
 refine hK.out _ _ hS4 (fun hH=>?_)
 clear hK K
 try simp only [Act.put,List.setIfInBounds_toArray,pb,pc]
 refine aR1 8 rfl (fun K hK=>?_)
 have C2:=jH (lay_const (w:=w4) (bu:=bu) (bp:=bp) (gL:=gL) (cL:=cL) (gA:=gA) (cA:=cA) an 0 none 0 0 ⟨xk,xm,xr,xs,xa,xn,xc⟩ tv)
 go_simp
 refine C2.out.mono ?_
 rintro e w5 ⟨rfl,hb⟩
 have HB5:=jH (jB HB4.out hb)
 have hS5:Below w3.heap.size w3 w5:=jB hS4 hb
 clear hb C2
 go_wp2_with fail
 refine hK.out _ _ hS5 (fun hH=>?_)
 clear hK K
 try simp only [Act.put,List.setIfInBounds_toArray,pb,pc]
 refine wpAnyH_done (by kernel_rfl) ?_ _
 clear hH hq
 go_wp2_with fail
 go_end0
 exact ⟨rfl,HB5.out⟩
theorem rng0 {W:World} {b:Nat} (h:W.rangeAt b 0 (pC hv3)):W.cell? ⟨b,0,none⟩=some (.int .u8 14):=h 0 _ rfl
theorem tell_ret {w:World} {bu bp gL cL gA cA:Nat} (q:Nat) (hq4:q<4) (hr:w.rangeAt bp (q*21) (pC hv3)) (hbp:bp<w.heap.size) (tv:Value) :
  Calls Tryz.prog 32 #[scV bu bp gL cL gA cA,.int .i64 (q:Int),tv] w fun e w'=>e=.returned (.tuple #[])∧Below w.heap.size w w':=by
 have HS0:=jH (At.new w (scO bu bp gL cL gA cA))
 obtain ⟨s0,s1,s2,s3,s4,s5,s6,s7,s8⟩:=HS0.out.sc
 have HRNG:=jH (rng_bel hbp hr (belA (Below.refl w.heap.size w) (o:=scO bu bp gL cL gA cA)))
 have q0:(0:Int)≤(q:Int):=by omega
 have q1:(q:Int)<4:=by omega
 clear hr hq4
 go_enter Tryz.func32,Tryz.ntmps32
 go_wp2_with (first
  | ((with_reducible show wpList _ _ _ (Oper.mk (some _) (Op.load 118 _) _ _ _ none::_) _ _);refine wpl_load64 bp (q*21) (pC hv3) rfl rfl HRNG.out Tryz.underlying118 rfl ?_)
  | ((with_reducible show wpList _ _ _ (Oper.mk none (Op.store 118 _ _) _ _ _ none::_) _ _);refine wpl_store64 (w.heap.size+1) (by simpa using there_new (w.alloc (scO bu bp gL cL gA cA)) _ _ 21 rfl) (by simp) hv3 rfl rfl ?_;intro w3 hr3 hl3 hb3;have HB3:=jH (belBut (belA (belA (Below.refl w.heap.size w))) hb3 (by omega) (by simp only [World.size_alloc];omega));have t0:=rng0 hr3;clear hr3 hl3 hb3))
 go_end0
 exact ⟨rfl,HB3.out⟩
end Go.Proofs.YtmjenlogbkbgnaaGreatDoor
