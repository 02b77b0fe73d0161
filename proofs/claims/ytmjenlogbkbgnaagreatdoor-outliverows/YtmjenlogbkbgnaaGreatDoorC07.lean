import Derived.Test.YtmjenlogbkbgnaaGreatDoorC04
import Derived.Test.YtmjenlogbkbgnaaGreatDoorB33
import Derived.Test.YtmjenlogbkbgnaaGreatDoorC02
namespace Go.Proofs.YtmjenlogbkbgnaaGreatDoor
open Go.RowKit Go.Shelf
set_option linter.unusedVariables false
set_option linter.unusedSimpArgs false
set_option maxRecDepth 100000
set_option maxHeartbeats 8000000
theorem setRow (b t:Nat) (w:World) (C:Array Value) (hA:At w b (.cells C t)) (l:List Value) (hl:l.length=C.size):At (w.setCells b 0 l) b (.cells l.toArray t):=by
 obtain ⟨C',h1,h2,-,h4,-⟩:=setCells_at b t l 0 w C hA
 have:C'=l.toArray:=by
  apply Array.ext_getElem?
  intro i
  rcases Nat.lt_or_ge i l.length with hi|hi
  ·have:=h4 i hi (by omega)
   rw [Nat.zero_add] at this
   rw [this]
   simp
  ·rw [Array.getElem?_eq_none (by omega),Array.getElem?_eq_none (by simp;omega)]
 rw [this] at h1
 exact h1
theorem there_at {w:World} {b t:Nat} {C:Array Value} (hA:At w b (.cells C t)) (n:Nat) (hn:n≤C.size):w.there b 0 n:=fun j hj=>by
 refine ⟨?_,frozen_of_row w b _ _ _ hA⟩
 rw [cell_of_row _ _ _ _ _ _ hA,Nat.zero_add,Array.getElem?_eq_getElem (by omega)]
 rfl
abbrev gO (bl bn bp:Nat):Obj:=.cells #[.string ByteArray.empty,.int .i64 0,.slice none 0 0,.int .i64 0,.slice (some ⟨bl,0,none⟩) 3 3,.slice (some ⟨bn,0,none⟩) 3 3,.slice (some ⟨bp,0,none⟩) 4 4] 73
theorem at_g {W:World} {bu bl bn bp:Nat} (h:At W bu (gO bl bn bp)):W.cell? ⟨bu,0,none⟩=some (.string ByteArray.empty)∧W.cell? ⟨bu,1,none⟩=some (.int .i64 0)∧W.cell? ⟨bu,2,none⟩=some (.slice none 0 0)∧W.cell? ⟨bu,3,none⟩=some (.int .i64 0)∧W.cell? ⟨bu,4,none⟩=some (.slice (some ⟨bl,0,none⟩) 3 3)∧W.cell? ⟨bu,5,none⟩=some (.slice (some ⟨bn,0,none⟩) 3 3)∧W.cell? ⟨bu,6,none⟩=some (.slice (some ⟨bp,0,none⟩) 4 4):=by
 unfold At at h
 refine ⟨?_,?_,?_,?_,?_,?_,?_⟩ <;> simp [World.cell?,h]
theorem scn_of {w w':World} {bu bl br bn bp bq:Nat} (h:HandAt w' bu bl br bn bp bq) {aL aA:Option Addr} {cL cA:Nat} (hR:RgIs w w' [hG] hG hcl aL cL aA cA):∃ gL gA f,aL=some ⟨gL,0,none⟩∧aA=some ⟨gA,0,none⟩∧Scn w' bu bl br bn bp bq gL gA f:=by
 obtain ⟨fl,lo,hi,hF⟩:=hR.row
 rw [hand_num] at hF
 have hA:=hR.ats
 rw [hand_at] at hA
 obtain ⟨gA,cp,e⟩:=own_is hA (by decide)
 cases e
 have h0:=own_cell hA (j:=0) (u:=.int .i64 1) rfl
 obtain ⟨gL,cp2,c0,f0,e2,-⟩:=hF.at (n:=0) (i:=0) (by decide)
 cases e2
 refine ⟨gL,gA,fun i=>(fl[i]?).getD zT,rfl,rfl,h,fun i c hi=>?_,h0⟩
 obtain ⟨g',cp',c',f',e',-,-,hc',hf',h5,ho⟩:=hF.at (n:=0) (i:=i) (List.getElem?_eq_some_iff.1 hi).1
 cases e'
 have:c'=c:=by
  have:zL[i]?=some c':=hc'
  rw [hi] at this
  cases this
  rfl
 subst this
 have e9:(fl[i]?).getD zT=f':=by simp [hf']
 show C5 w' gL (i*5) ((fl[i]?).getD zT)∧TyAt w' ((fl[i]?).getD zT) c'.ty
 rw [e9]
 refine ⟨h5,ho.ty ?_⟩
 match i,hi with
 | 0,hi=>simp [zL] at hi;subst hi;exact ⟨by omega,by omega,by omega⟩
 | 1,hi=>simp [zL] at hi;subst hi;exact ⟨by omega,by omega,by omega⟩
 | 2,hi=>simp [zL] at hi;subst hi;exact ⟨⟨by omega,by omega⟩,by omega,by omega,by omega⟩
 | i+3,hi=>simp [zL] at hi
theorem Tryz.results26:Tryz.f26.results=#[.cell 6 79,.tmp 7]:=rfl
theorem results_sc {fn:Func} {i j:Nat} (h:fn.results=#[.cell i 79,.tmp j]) {tmps:Array Value} {W:World} {b4 bu bp gL cL gA cA:Nat} {v:Value} (ht:tmps.getD i undef=.pointer (some ⟨b4,0,none⟩)) (hv:tmps.getD j undef=v) (hC:At W b4 (scO bu bp gL cL gA cA)):(results fn tmps).run Tryz.prog W=.ok (.tuple #[scV bu bp gL cL gA cA,v]) W:=by
 obtain ⟨e0,e1,e2,e3,e4,e5,e6,e7,e8⟩:=hC.sc
 have ht2:tmps[i]?.getD undef=.pointer (some ⟨b4,0,none⟩):=by rw [← ht];simp
 have hv2:tmps[j]?.getD undef=v:=by rw [← hv];simp
 simp only [results,h]
 simp [go_sem,ht2,hv2,e0,e1,e2,e3,e4,e5,e6,e7,e8]
theorem size79:(Tryz.prog.info? 79).map (·.size)=some 9:=by kernel_rfl
abbrev zSC:Array Value:=#[.slice none 0 0,.slice none 0 0,.int .i64 0,.slice none 0 0,.int .i64 0,.int .i64 0,.int .i64 0,.slice none 0 0,.slice none 0 0]
theorem scene_hand {w:World} {bu bl br bn bp bq:Nat} (h:HandAt w bu bl br bn bp bq) (q:Nat) (hq4:q<4) :
  Calls Tryz.prog 26 #[uV none 0 0 (some ⟨bu,0,none⟩) 1 1 0,.int .i64 0,.int .i64 (q:Int)] w fun e w'=>∃ gL cL gA cA f,e=.returned (.tuple #[scV bu bp gL cL gA cA,.int .i64 0])∧Scn w' bu bl br bn bp bq gL gA f∧Below w.heap.size w w':=by
 have hB2:Below w.heap.size w ((w.alloc (uO none 0 0 (some ⟨bu,0,none⟩) 1 1 0)).alloc (.cells zSC 79)):=belA (belA bR)
 have HB2:=jH hB2
 have HU2:Hid (At ((w.alloc (uO none 0 0 (some ⟨bu,0,none⟩) 1 1 0)).alloc (.cells zSC 79)) w.heap.size (uO none 0 0 (some ⟨bu,0,none⟩) 1 1 0)):=jH ((At.new _ _).alloc _)
 have HZ2:Hid (At ((w.alloc (uO none 0 0 (some ⟨bu,0,none⟩) 1 1 0)).alloc (.cells zSC 79)) (w.heap.size+1) (.cells zSC 79)):=jH (at_snd _ _ _)
 have HH:=jH h
 have CO:=jH (Of_yes (hand_ug (h.bel hB2)) (by rw [hand_cnt];decide))
 rw [hand_cnt] at CO
 have CBL:=jH (isBelow_any 4 (q:Int))
 have hbl:blwB 4 (q:Int)=true:=by simp [blwB];omega
 rw [hbl] at CBL
 clear hbl h hB2
 go_enter Tryz.func26,Tryz.ntmps26
 go_upto_region 6 with (first
  | (go_at_call 56;refine CO.out.mono ?_;rintro e w3 ⟨aL,cL,aA,cA,rfl,hR,hb⟩;have HB3:=jH (jB HB2.out hb);obtain ⟨gL,gA,f,rfl,rfl,hS⟩:=scn_of (HH.out.bel (jB HB2.out hb)) hR;have HS3:=jH hS;have HG3:=jH hR;have HU3:=jH (HU2.out.below hb);have HZ3:=jH (HZ2.out.below hb);clear hR hb hS)
  | (refine wpl_storeR w3.heap.size 0 4 2 (some ⟨gL,0,none⟩) 3 cL (some ⟨gA,0,none⟩) 4 cA (At.new w3 (rgO 0 0 0 (.slice none 0 0) (.slice none 0 0))) rfl rfl ?_;intro w4 ha4 hb4;have HB4:=jH (belBut (belA HB3.out) hb4 HB3.out.size (by have:=HB3.out.size;simp only [World.size_alloc];omega));have HD4:=jH (belBut (belA (Below.refl w3.heap.size w3)) hb4 (Nat.le_refl _) (by simp only [World.size_alloc];omega));have HS4:=jH (HS3.out.bel HD4.out);have HU4:=jH (HU3.out.below HD4.out);have HZ4:=jH (HZ3.out.below HD4.out);have HR4:=jH ha4;obtain ⟨x0,x1,x2⟩:=HU4.out.un;obtain ⟨g0,g1,g2,g3,g4,g5,g6⟩:=at_g HS4.out.h.u;clear ha4 hb4)
  | (go_at_call 46;refine (CBL.out _).mono ?_;rintro e w5 ⟨rfl,hw⟩;replace hw:=hw.symm;subst hw))
 clear x0 x1 x2 g0 g1 g2 g3 g4 g5 g6
 refine beginH (S:=fun V=>At V w.heap.size (uO none 0 0 (some ⟨bu,0,none⟩) 1 1 0)∧At V bu (gO bl bn bp)∧At V w3.heap.size (rgO 0 4 2 (.slice (some ⟨gL,0,none⟩) 3 cL) (.slice (some ⟨gA,0,none⟩) 4 cA))) (fun _ _ _ _ _ h=>h) (by kernel_rfl) ⟨HU4.out.drew,(HS4.out.h.u).drew,HR4.out.drew⟩ (fun hq hH=>?_)
 refine tq 0 34 (uV none 0 0 (some ⟨bu,0,none⟩) 1 1 0) hq rfl rfl (fun W hSw=>by (obtain ⟨x0,x1,x2⟩:=At.un hSw.1;go_simp;try rfl)) hH ?_
 simp only [pb,pc]
 refine tz 1 35 (.pointer (some ⟨w.heap.size,1,none⟩)) hq rfl rfl hH ?_
 simp only [pb,pc]
 refine tq 2 36 (.slice (some ⟨bu,0,none⟩) 1 1) hq rfl rfl (fun W hSw=>by (obtain ⟨x0,x1,x2⟩:=At.un hSw.1;go_simp;try rfl)) hH ?_
 simp only [pb,pc]
 refine tz 3 37 (.int .i64 0) hq rfl rfl hH ?_
 simp only [pb,pc]
 refine tz 4 38 (.pointer (some ⟨bu,0,none⟩)) hq rfl rfl hH ?_
 simp only [pb,pc]
 refine tz 5 39 (.pointer (some ⟨bu,6,none⟩)) hq rfl rfl hH ?_
 simp only [pb,pc]
 refine tq 6 40 (.slice (some ⟨bp,0,none⟩) 4 4) hq rfl rfl (fun W hSw=>by (obtain ⟨g0,g1,g2,g3,g4,g5,g6⟩:=at_g hSw.2.1;go_simp;try rfl)) hH ?_
 simp only [pb,pc]
 refine tq 7 41 (rgV 0 4 2 (.slice (some ⟨gL,0,none⟩) 3 cL) (.slice (some ⟨gA,0,none⟩) 4 cA)) hq rfl rfl (fun W hSw=>by (obtain ⟨r0,r1,r2,r3,r4⟩:=At.rg hSw.2.2;go_simp;try rfl)) hH ?_
 simp only [pb,pc]
 refine tz 8 42 (scV bu bp gL cL gA cA) hq rfl rfl hH ?_
 simp only [pb,pc]
 refine aRd [9] ?_
 refine AllReadyH.cons (o:={ dst:=none,op:=.store 79 (.tmp 6) (.tmp 42),type:=0,pos := "scene.go:26",after:=_,guard:=none }) rfl (fun K hK=>?_) AllReadyH.nil
 rw [if_pos (by rfl)]
 refine wp_store_mid 79 (.tmp 6) (.tmp 42) rfl (w.heap.size+1) 0 (scC bu bp gL cL gA cA) rfl rfl (there_at HZ4.out.drew 9 (by decide)) size79 (by simp [Value.oneCell']) ?_
 have HX5:=jH (setRow (w.heap.size+1) 79 _ zSC HZ4.out.drew (scC bu bp gL cL gA cA).toList rfl)
 have hb5:But (w.heap.size+1) w4.drew (w4.drew.setCells (w.heap.size+1) 0 (scC bu bp gL cL gA cA).toList):=but_setCells _ _ 0 _
 have HB5:=jH (belBut (belN HB4.out 1) hb5 (by omega) HB4.out.size)
 have hR5:=((HG3.out.bel HD4.out).bel (belN bR 1)).but hb5 (by simp only [World.size_alloc];omega)
 obtain ⟨gL',gA',f',e1,e2,hS5⟩:=scn_of (HH.out.bel HB5.out) hR5
 cases e1
 cases e2
 have HS5:=jH hS5
 clear hR5 hS5
 refine hK.out _ _ ⟨HU4.out.drew.but hb5 (by omega),(HS4.out.h.u).drew.but hb5 (Nat.ne_of_lt (Nat.lt_of_lt_of_le HH.out.u.lt (by omega))),HR4.out.drew.but hb5 (by have:=HZ3.out.lt;omega)⟩ (fun hH=>?_)
 clear hK K hb5
 try simp only [Act.put,List.setIfInBounds_toArray,pb,pc]
 refine tz 10 7 (.int .i64 0) hq rfl rfl hH ?_
 simp only [pb,pc]
 refine wpAnyH_done (by kernel_rfl) ?_ _
 clear hH hq
 go_wp2_with fail
 have hx:At (w4.drew.setCells (w.heap.size+1) 0 (scC bu bp gL cL gA cA).toList) (w.heap.size+1) (scO bu bp gL cL gA cA):=HX5.out
 refine bodyPost_ret (results_sc (b4:=w.heap.size+1) (v:=.int .i64 0) Tryz.results26 rfl rfl hx) rfl ?_
 exact ⟨gL,cL,gA,⟨cA,rfl⟩,⟨f',HS5.out⟩,HB5.out⟩
theorem listed_m {fn:Nat} {x:Value} (w:World) (L:List (Int × Int)) (hen:Enters fn) (hC:∀ W b,JL w b [] W→Calls Tryz.prog fn #[x,fnB 57 b] W fun e w'=>e=.returned (.tuple #[])∧JL w b L w') :
  Calls Tryz.prog 27 #[.func (.func fn) #[x] #[]] w fun e w'=>∃ v,e=.returned v∧w'.ownsRow w.heap.size 36 2 v L.length (cC L)∧Below w.heap.size w w':=by
 have C:=jH (hC (w.alloc (One (.slice none 0 0) 28)) w.heap.size ⟨_,At.new w _,World.ownsRow_nil _ _ _ _,belA bR,Nat.le_refl _⟩)
 unfold Enters at hen
 clear hC
 go_enter Tryz.func27,Tryz.ntmps27
 go_wp2_with fail
 refine C.out.mono ?_
 rintro e w1 ⟨rfl,v,hA,hO,hB,-⟩
 obtain ⟨c0,f0⟩:=hA.one
 have HO:=jH hO
 have HB:=jH hB
 clear hA hO hB
 go_wp2_with fail
 go_ret
 exact ⟨_,rfl,HO.out,HB.out⟩
theorem at1_hand {w:World} {bu bl br bn bp bq gL gA:Nat} {f:Nat→Fv} (hS:Scn w bu bl br bn bp bq gL gA f) (cL cA:Nat) {ps pq:Nat} (hA:At w ps (scO bu bp gL cL gA cA)) (hQ:At w pq (One (.int .i64 0) 3)) (W:World) (b:Nat) (hJ:JL w b [] W) :
  Calls Tryz.prog 31 #[fnB 57 b,.pointer (some ⟨ps,0,none⟩),.pointer (some ⟨pq,0,none⟩)] W fun e w'=>e=.returned (.tuple #[])∧JL w b [(1,0)] w':=by
 have hB:=(takeL w b).bel _ _ hJ
 obtain ⟨s0,s1,s2,s3,s4,s5,s6,s7,s8⟩:=(hA.below hB).sc
 obtain ⟨q0,-⟩:=(hQ.below hB).one
 have C:=jH (tell_bor1 (takeL w b) [] (by decide) hS cL cA W hJ)
 clear hA hQ hB hJ hS
 go_enter Tryz.func31,Tryz.ntmps31
 go_wp2_with (go_at_call 32;refine C.out.mono ?_;rintro e w1 ⟨rfl,hj,-⟩;have HJ:=jH hj;clear hj)
 go_end0
 exact ⟨rfl,HJ.out⟩
theorem load79 {w:World} {ops:Array Oper} {rest:List Oper} {a:Act} {Q:Exit→Act→World→Prop} {x d:Nat} {ty:TypeId} {pos:String} {after:Array Edge} (b bu bp gL cL gA cA:Nat) (hA:At w b (scO bu bp gL cL gA cA)) (hx:a.eval (.tmp x)=.pointer (some ⟨b,0,none⟩))
  (h:wpList Tryz.prog ops Q rest (a.put (some d) (scV bu bp gL cL gA cA)) w):wpList Tryz.prog ops Q (⟨some d,.load 79 (.tmp x),ty,pos,after,none⟩::rest) a w :=
 wpList_load_mid rfl 79 (.tmp x) rfl b 0 hx (scC bu bp gL cL gA cA).toList _ (at_rngL (l:=(scC bu bp gL cL gA cA).toList) hA) Tryz.underlying79 rfl size79 h
theorem store79 {w:World} {ops:Array Oper} {rest:List Oper} {a9:Act} {Q:Exit→Act→World→Prop} {x y:Nat} {ty:TypeId} {pos:String} {after:Array Edge} (b bu bp gL cL gA cA:Nat) (C:Array Value) (hA:At w b (.cells C 79)) (hC:C.size=9)
  (hx:a9.eval (.tmp x)=.pointer (some ⟨b,0,none⟩)) (hy:a9.eval (.tmp y)=scV bu bp gL cL gA cA)
  (h:∀ w',At w' b (scO bu bp gL cL gA cA)→But b w w'→wpList Tryz.prog ops Q rest a9 w'):wpList Tryz.prog ops Q (⟨none,.store 79 (.tmp x) (.tmp y),ty,pos,after,none⟩::rest) a9 w:=by
 refine wpList_store_mid rfl 79 (.tmp x) (.tmp y) rfl b 0 (scC bu bp gL cL gA cA) hx hy (there_at hA 9 (by omega)) size79 (by simp [Value.oneCell']) ?_
 exact h _ (setRow b 79 w C hA _ (by rw [hC];rfl)) (but_setCells b _ 0 w)
abbrev uU (bu:Nat):Obj:=uO none 0 0 (some ⟨bu,0,none⟩) 1 1 0
theorem Of_hand {w:World} {bu bl br bn bp bq:Nat} (h:HandAt w bu bl br bn bp bq) :
  Calls Tryz.prog 9 #[uV none 0 0 (some ⟨bu,0,none⟩) 1 1 0,.int .i64 0] w fun e w'=>∃ v,e=.returned (.tuple #[v,.int .i64 0])∧w'.ownsRow w.heap.size 36 2 v 1 (cC [(1,0)])∧Below w.heap.size w w':=by
 have HB1:=jH (belA (Below.refl w.heap.size w) (o:=uU bu))
 have HU:=jH (At.new w (uU bu))
 have CS:=jH (scene_hand (h.bel HB1.out) 0 (by omega))
 have CL:=jH (fun (V:World) (gL cL gA cA:Nat) (f:Nat→Fv) (hS:Scn V bu bl br bn bp bq gL gA f)=>listed_m (fn:=28) (x:=scV bu bp gL cL gA cA) V [(1,0)] (fun args W=>by kernel_rfl) (fun W b hJ=>once_any V b hS cL cA W hJ))
 obtain ⟨x0,x1,x2⟩:=HU.out.un
 clear h
 go_enter Tryz.func9,Tryz.ntmps9
 go_wp2_with (first
  | (go_at_call 26;refine CS.out.mono ?_;rintro e w3 ⟨gL,cL,gA,cA,f,rfl,hS,hb⟩;have HB3:=jH (jB HB1.out hb);have HS3:=jH hS;clear hb hS)
  | ((with_reducible show wpList _ _ _ (Oper.mk none (Op.store 79 _ _) _ _ _ none::_) _ _);refine store79 w3.heap.size bu bp gL cL gA cA zSC (At.new w3 (.cells zSC 79)) rfl rfl rfl ?_;intro w4 ha4 hb4;have HB4:=jH (belBut (belA HB3.out) hb4 HB3.out.size (by have:=HB3.out.size;simp only [World.size_alloc];omega));have HD4:=jH (belBut (belA (Below.refl w3.heap.size w3)) hb4 (Nat.le_refl _) (by simp only [World.size_alloc];omega));have HA4:=jH ha4;have C4:=jH (CL.out w4 gL cL gA cA f (HS3.out.bel HD4.out));clear ha4 hb4)
  | ((with_reducible show wpList _ _ _ (Oper.mk (some _) (Op.load 79 _) _ _ _ none::_) _ _);refine load79 w3.heap.size bu bp gL cL gA cA HA4.out rfl ?_)
  | (go_at_call 27;refine C4.out.mono ?_;rintro e w5 ⟨v,rfl,ho,hb⟩;have HO:=jH (own_low ho HB4.out.size);have HB5:=jH (jB HB4.out hb);clear ho hb))
 go_ret2
 exact ⟨_,rfl,HO.out,HB5.out⟩
theorem At_hand {w:World} {bu bl br bn bp bq:Nat} (h:HandAt w bu bl br bn bp bq) :
  Calls Tryz.prog 12 #[uV none 0 0 (some ⟨bu,0,none⟩) 1 1 0,.int .i64 0,.int .i64 0] w fun e w'=>∃ v,e=.returned (.tuple #[v,.int .i64 0])∧w'.ownsRow w.heap.size 36 2 v 1 (cC [(1,0)])∧Below w.heap.size w w':=by
 have HB1:=jH (belA (belA (Below.refl w.heap.size w) (o:=uU bu)) (o:=One (.int .i64 0) 3))
 have HU:=jH ((At.new w (uU bu)).alloc (One (.int .i64 0) 3))
 have HQ:=jH (at_snd w (uU bu) (One (.int .i64 0) 3))
 have CS:=jH (scene_hand (h.bel HB1.out) 0 (by omega))
 have CL:=jH (fun (V:World) (gL cL gA cA ps pq:Nat) (f:Nat→Fv) (hS:Scn V bu bl br bn bp bq gL gA f) (hA:At V ps (scO bu bp gL cL gA cA)) (hQ:At V pq (One (.int .i64 0) 3))=>listed_c (fn:=31) (b1:=ps) (b2:=pq) V [(1,0)] (fun args W=>by kernel_rfl) (fun W b hJ=>at1_hand hS cL cA hA hQ W b hJ))
 obtain ⟨x0,x1,x2⟩:=HU.out.un
 obtain ⟨y0,-⟩:=HQ.out.one
 clear h
 go_enter Tryz.func12,Tryz.ntmps12
 go_wp2_with (first
  | (go_at_call 26;refine CS.out.mono ?_;rintro e w3 ⟨gL,cL,gA,cA,f,rfl,hS,hb⟩;have HB3:=jH (jB HB1.out hb);have HS3:=jH hS;have HQ3:=jH (HQ.out.below hb);clear hb hS)
  | ((with_reducible show wpList _ _ _ (Oper.mk none (Op.store 79 _ _) _ _ _ none::_) _ _);refine store79 w3.heap.size bu bp gL cL gA cA zSC (At.new w3 (.cells zSC 79)) rfl rfl rfl ?_;intro w4 ha4 hb4;have HB4:=jH (belBut (belA HB3.out) hb4 HB3.out.size (by have:=HB3.out.size;simp only [World.size_alloc];omega));have HD4:=jH (belBut (belA (Below.refl w3.heap.size w3)) hb4 (Nat.le_refl _) (by simp only [World.size_alloc];omega));have HA4:=jH ha4;have C4:=jH (CL.out w4 gL cL gA cA w3.heap.size (w.heap.size+1) f (HS3.out.bel HD4.out) ha4 (HQ3.out.below HD4.out));clear ha4 hb4)
  | (go_at_call 27;refine C4.out.mono ?_;rintro e w5 ⟨v,rfl,ho,hb⟩;have HO:=jH (own_low ho HB4.out.size);have HB5:=jH (jB HB4.out hb);clear ho hb))
 go_ret2
 exact ⟨_,rfl,HO.out,HB5.out⟩
end Go.Proofs.YtmjenlogbkbgnaaGreatDoor
