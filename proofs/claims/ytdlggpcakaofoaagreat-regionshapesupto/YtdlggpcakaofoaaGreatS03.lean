import Derived.Test.YtdlggpcakaofoaaGreatS02
import Derived.Test.YtdlggpcakaofoaaGreatS01
import Derived.Deep.AppendLies
namespace Go.Proofs.YtdlggpcakaofoaaGreat
open Go.RowKit Go.Shelf
set_option linter.unusedVariables false
set_option linter.unusedSimpArgs false
set_option maxRecDepth 100000
set_option maxHeartbeats 4000000
theorem run_append_nil0 {P:Program} {w:World} (t ty e:TypeId) (i:TypeInfo) (ht:P.underlying t=some (.slice e)) (hi:P.info? e=some i) (a:Option Addr) (c:Nat) :
  (Builtin.append_ #[t,t] ty #[.slice none 0 0,.slice a 0 c]).run P w=.ok (.slice none 0 0) w:=by
 cases a with
 | none=>simp [Builtin.append_,run_underlying ht,sizeOf,typeInfo,hi,Builtin.lenOf,Builtin.firstCells]
 | some a=>simp [Builtin.append_,run_underlying ht,sizeOf,typeInfo,hi,Builtin.lenOf,Builtin.firstCells,loadCells,loadCellsFrom]
theorem wp_append_nil0 {P:Program} (w:World) {o:Oper} {a:Act} {K:Act→World→Prop} {Q:Exit→Act→World→Prop} (s x:Operand) (t:TypeId)
  (ho:o.op=.call { callee:=.builtin .append,args:=#[s,x],argTypes:=#[t,t] }) (e:TypeId) (i:TypeInfo) (ht:P.underlying t=some (.slice e)) (hi:P.info? e=some i)
  (hs:a.eval s=.slice none 0 0) (ad:Option Addr) (c:Nat) (hx:a.eval x=.slice ad 0 c) (h:K (a.put o.dst (.slice none 0 0)) w):o.wp P a w K Q:=by
 have hr:=run_append_nil0 (P:=P) (w:=w) t o.type e i ht hi ad c
 unfold Oper.wp execOp
 simp only [ho,resolve,invoke,builtin,Sem.run_bind,Sem.run_pure,Result.andThen_ok,List.map_toArray,List.map_cons,List.map_nil,hs,hx,hr]
 exact h
theorem wpList_append_nil {P:Program} (w:World) {ops:Array Oper} {rest:List Oper} {o:Oper} {a:Act} {Q:Exit→Act→World→Prop} (hgd:o.guard=none) (s x:Operand) (t:TypeId)
  (ho:o.op=.call { callee:=.builtin .append,args:=#[s,x],argTypes:=#[t,t] })
  (e:TypeId) (i:TypeInfo) (ht:P.underlying t=some (.slice e)) (hi:P.info? e=some i) (hz:i.zero=some (.int .i64 0)) (hsize:i.size=1) (hby:i.bytes=8)
  (hs:a.eval s=.slice none 0 0) (an:Option Addr) (ln capn:Nat) (L:List Int) (hx:a.eval x=.slice an ln capn) (hA:IntR w an ln capn L) (h63:ln≤20000)
  (h:∀ xa xc w',w'.ownsRow w.heap.size e 1 (.slice xa ln xc) ln (iCells L)→w.grownBy w' none→wpList P ops Q rest (a.put o.dst (.slice xa ln xc)) w'):wpList P ops Q (o::rest) a w:=by
 refine wpList_plain hgd fun K hK=>?_
 have hl:=hA.len
 rcases Nat.eq_zero_or_pos ln with h0|h0
 ·subst h0
  have:L=[]:=List.length_eq_zero_iff.1 hl.symm
  subst this
  exact wp_append_nil0 w s x t ho e i ht hi hs an capn hx (hK _ _ (h none 0 w ⟨rfl,.inl ⟨rfl,rfl⟩⟩ (World.grownBy.refl w _)))
 ·obtain ⟨g,off,rfl,hg,hc⟩:=hA.cells (by rintro rfl;simp at hl;omega)
  have news:∀ j u,(iCells L)[j]?=some u→w.cell? ((⟨g,off,none⟩:Addr).add j)=some u:=fun j u hu=>by
   unfold iCells at hu
   rw [List.getElem?_map] at hu
   obtain ⟨x,hx,rfl⟩:=Option.map_eq_some_iff.1 hu
   rw [Addr.add_lit]
   exact hc j x hx
  have ones:∀ u∈iCells L,u.oneCell'=true:=fun u hu=>by unfold iCells at hu;obtain ⟨x,-,rfl⟩:=List.mem_map.1 hu;rfl
  refine wp_append_lies w s x t ho w.heap.size e i (.int .i64 0) 1 8 ht hi hz hsize hby rfl (by omega) (.slice none 0 0) 0 [] hs ⟨rfl,.inl ⟨rfl,rfl⟩⟩ ⟨g,off,none⟩ ln capn (iCells L) hx (by simp [iCells,hl]) news ones h0 (by unfold maxLen;omega) (by omega) (Nat.le_refl _) w.heap.size rfl ?_
  intro g7 c7 w7 ho7 hg7 hw7 hl7
  rw [Nat.zero_add] at ho7 ⊢
  exact hK _ _ (h _ _ w7 ho7 hg7)
theorem own_read {W:World} {B e n cap:Nat} {a:Option Addr} {L:List Int} (h:W.ownsRow B e 1 (.slice a n cap) n (iCells L)) (hr:∀ x∈L,-9223372036854775808≤x∧x≤9223372036854775807) (hn:n=L.length):IntR W a n cap L:=by
 rcases h.2 with ⟨e1,h0⟩|⟨g,c,cur,e1,h1,hg,h2,h3,h4,h5⟩
 ·simp only [Value.slice.injEq] at e1
  obtain ⟨rfl,-,rfl⟩:=e1
  exact ⟨hn,by omega,by unfold maxLen;omega,fun hne=>absurd (List.length_eq_zero_iff.1 (by omega)) hne,hr,fun _=>rfl⟩
 ·simp only [Value.slice.injEq] at e1
  obtain ⟨rfl,-,rfl⟩:=e1
  refine ⟨hn,h2,h3,fun _=>⟨g,0,rfl,(Array.getElem?_eq_some_iff.1 hg).1,fun i x hi=>?_⟩,hr,fun e=>by cases e⟩
  have h6:(iCells L)[i]?=some (.int .i64 x):=by unfold iCells;rw [List.getElem?_map,hi];rfl
  rw [Nat.zero_add]
  exact (own_cell h h6).1
theorem ownPlace_any (w:World) (xl:Int) (xa:Option Addr) (xn xcap:Nat) {p:List Int} (hP:PAt w ⟨xl,xa,xn,xcap⟩ p) (h8:xn≤1000) :
  Calls Tryz.prog 65 #[plV xl xa xn xcap] w fun e w'=>∃ (a':Option Addr) (cap':Nat),e=.returned (plV xl a' xn cap')∧w'.ownsRow w.heap.size 123 1 (.slice a' xn cap') xn (iCells p)∧Below w.heap.size w w':=by
 obtain ⟨V,hV⟩:∃ V,V=(w.alloc (plO xl xa xn xcap)).alloc (plO 0 none 0 0):=⟨_,rfl⟩
 have hB:Below w.heap.size w V:=by rw [hV];exact belA (belA bR)
 have A1:Hid (At V w.heap.size (plO xl xa xn xcap)):=jH (by rw [hV];exact (At.new _ _).alloc _)
 have A2:Hid (At V (w.heap.size+1) (plO 0 none 0 0)):=jH (by rw [hV];exact at_snd _ _ _)
 have hz:Hid (V.heap.size=w.heap.size+2):=jH (by rw [hV];simp only [World.size_alloc])
 obtain ⟨i0,hi,hz0,hz1,hz2⟩:=info_parts Tryz.info123
 have HIR:=jH (hP.bel hB).row
 have HPP:=jH hP
 have HB:=jH hB
 have HV:=jH hV
 clear hP hV hB
 go_enter Tryz.func65,Tryz.ntmps65
 go_upto_region 1 with fail
 change Code.wp _ _ _ _ ((w.alloc (plO xl xa xn xcap)).alloc (plO 0 none 0 0))
 rw [← HV.out]
 clear HV
 obtain ⟨c0,c1⟩:=A1.out.pl
 go_upto_region 2 with (at_builtin;refine wpList_append_nil _ rfl _ _ 26 rfl 123 i0 Tryz.underlying26 hi hz0 hz1 hz2 rfl xa xn xcap p rfl HIR.out (by omega) ?_;intro ya yc w2 ho hg;have hbw:Below V.heap.size V w2:=bR.grown (row:=none) hg (Nat.le_refl _) (fun k e=>by cases e);have HBW:=jH hbw;have B1:=jH (A1.out.below hbw);have B2:=jH (A2.out.below hbw);have HO2:=jH ho;have f1:=frozen_of_row w2 w.heap.size 1 _ _ B1.out;have hl1:=B1.out.lt;clear c0 c1 hg ho hbw;obtain ⟨y0,y1⟩:=B1.out.pl)
 have hzz:=hz.out
 obtain ⟨X,hX⟩:∃ X,X=w2.setCell ⟨w.heap.size,1,none⟩ (.slice ya xn yc):=⟨_,rfl⟩
 have C1:Hid (At X w.heap.size (plO xl ya xn yc)):=jH (by rw [hX];exact heap_setCell_same w2 w.heap.size 1 _ 28 _ B1.out)
 have C2:Hid (At X (w.heap.size+1) (plO 0 none 0 0)):=jH (by rw [hX];exact B2.out.set (by simp) _)
 have CO:Hid (X.ownsRow V.heap.size 123 1 (.slice ya xn yc) xn (iCells p)):=jH (by rw [hX];exact own_grow HO2.out (But.set (But.refl _ _) 1 _) (fun g9 hg9 e=>by have:=own_lo HO2.out g9 hg9;have:=Option.some.inj e;omega))
 have CB:Hid (Below w.heap.size w X):=jH (by rw [hX];exact (jB HB.out HBW.out).setCell (Nat.le_refl _) _)
 rw [← hX]
 clear hX y0 y1 f1 hl1 B1 B2 HO2 HBW A1 A2 HIR
 obtain ⟨y0,y1⟩:=C1.out.pl
 obtain ⟨z0,z1⟩:=C2.out.pl
 have f0:=frozen_of_row X (w.heap.size+1) 0 _ _ C2.out
 have f1:=frozen_of_row X (w.heap.size+1) 1 _ _ C2.out
 have hl1:=C1.out.lt
 have hl2:=C2.out.lt
 have F1:Hid (At ((X.setCell ⟨w.heap.size+1,0,none⟩ (.int .i64 xl)).setCell ⟨w.heap.size+1,1,none⟩ (.slice ya xn yc)) (w.heap.size+1) (plO xl ya xn yc)):=jH (heap_setCell_same _ (w.heap.size+1) 1 _ 28 _ (heap_setCell_same X (w.heap.size+1) 0 _ 28 (.int .i64 xl) C2.out))
 have F2:Hid (((X.setCell ⟨w.heap.size+1,0,none⟩ (.int .i64 xl)).setCell ⟨w.heap.size+1,1,none⟩ (.slice ya xn yc)).ownsRow w.heap.size 123 1 (.slice ya xn yc) xn (iCells p)):=jH (own_low (own_grow CO.out ((But.set (But.refl _ _) 0 _).set 1 _) (fun g9 hg9 e=>by have:=own_lo CO.out g9 hg9;have:=Option.some.inj e;omega)) (by omega))
 have F3:Hid (Below w.heap.size w ((X.setCell ⟨w.heap.size+1,0,none⟩ (.int .i64 xl)).setCell ⟨w.heap.size+1,1,none⟩ (.slice ya xn yc))):=jH ((CB.out.setCell (by simp) _).setCell (by simp) _)
 go_wp2_with fail
 exact bodyPost_ret (results_pl Tryz.results65 rfl F1.out) rfl ⟨ya,yc,rfl,F2.out,F3.out⟩
theorem Tryz.results35:Tryz.f35.results=#[.cell 6 28,.tmp 7,.tmp 8]:=rfl
theorem results_pl3 {fn:Func} {i j k:Nat} (h:fn.results=#[.cell i 28,.tmp j,.tmp k]) {tmps:Array Value} {W:World} {b4:Nat} {l:Int} {a:Option Addr} {n cap:Nat} {v v2:Value} (ht:tmps.getD i undef=.pointer (some ⟨b4,0,none⟩)) (hv:tmps.getD j undef=v) (hv2:tmps.getD k undef=v2) (hC:At W b4 (plO l a n cap)):(results fn tmps).run Tryz.prog W=.ok (.tuple #[plV l a n cap,v,v2]) W:=by
 have ht2:tmps[i]?.getD undef=.pointer (some ⟨b4,0,none⟩):=by rw [← ht];simp
 have hv':tmps[j]?.getD undef=v:=by rw [← hv];simp
 have hv2':tmps[k]?.getD undef=v2:=by rw [← hv2];simp
 obtain ⟨e0,e1⟩:=hC.pl
 simp only [results,h]
 simp [go_sem,ht2,e0,e1,hv',hv2']
theorem Assigns_no (w:World) (a ua:Option Addr) (n cap un ucap:Nat) (mn fn q:Int)
  (h:∀ W,Below w.heap.size w W→Calls Tryz.prog 63 #[uV a n cap ua un ucap mn,.int .i64 fn,.int .i64 q] W fun e w'=>e=.returned (.tuple #[.agg (pC zPv).toArray,.int .i64 2])∧Below W.heap.size W w') :
  Calls Tryz.prog 35 #[uV a n cap ua un ucap mn,.int .i64 fn,.int .i64 q] w fun e w'=>e=.returned (.tuple #[plV 0 none 0 0,.bool false,.int .i64 2])∧Below w.heap.size w w':=by
 obtain ⟨V,hV⟩:∃ V,V=(w.alloc (uO a n cap ua un ucap mn)).alloc (plO 0 none 0 0):=⟨_,rfl⟩
 have hB:Below w.heap.size w V:=by rw [hV];exact belA (belA bR)
 have A1:Hid (At V w.heap.size (uO a n cap ua un ucap mn)):=jH (by rw [hV];exact (At.new _ _).alloc _)
 have A2:Hid (At V (w.heap.size+1) (plO 0 none 0 0)):=jH (by rw [hV];exact at_snd _ _ _)
 have CG:=jH (h V hB)
 have HB:=jH hB
 have HV:=jH hV
 clear hV hB h
 go_enter Tryz.func35,Tryz.ntmps35
 go_upto_region 1 with fail
 change Code.wp _ _ _ _ ((w.alloc (uO a n cap ua un ucap mn)).alloc (plO 0 none 0 0))
 rw [← HV.out]
 clear HV
 obtain ⟨u0,u1,u2⟩:=A1.out.un
 go_upto_region 2 with (first
  | (go_at_call 63;refine CG.out.mono ?_;rintro e w1 ⟨rfl,hb1⟩;have HB1:=jH hb1;clear hb1 u0 u1 u2)
  | ((with_reducible show wpList _ _ _ (Oper.mk none (Op.store 65 _ _) _ _ _ none::_) _ _);refine wpl_store64 w1.heap.size (there_new w1 _ _ 21 rfl) (by simp) zPv rfl rfl ?_;intro U3 hr3 hl3 hb3;have HR3:=jH hr3;have HL3:=jH hl3;have HBT3:=jH hb3;clear hr3 hb3 hl3))
 have kb:=jH (belBut (belA HB1.out) HBT3.out HB1.out.size (by have:=HB1.out.size;simp;omega))
 have k2:=jH (A2.out.below kb.out)
 obtain ⟨b9,hb9⟩:∃ b9,b9=w1.heap.size:=⟨_,rfl⟩
 rw [← hb9] at HR3 HL3 ⊢
 have hz1:w.heap.size+1<b9:=by have:=HB1.out.size;have:=A2.out.lt;omega
 clear HB1 HBT3 hb9 CG A1
 obtain ⟨x0,x1⟩:=k2.out.pl
 have xf0:=frozen_of_row U3 (w.heap.size+1) 0 _ _ k2.out
 have xf1:=frozen_of_row U3 (w.heap.size+1) 1 _ _ k2.out
 have xl:=k2.out.lt
 have hl9:=HL3.out
 have c0:U3.cell? ⟨b9,0,none⟩=some (.int .u8 (zPv.op:Int)):=HR3.out 0 _ rfl
 go_wp2_with fail
 have F1:At ((U3.setCell ⟨w.heap.size+1,0,none⟩ (.int .i64 0)).setCell ⟨w.heap.size+1,1,none⟩ (.slice none 0 0)) (w.heap.size+1) (plO 0 none 0 0):=heap_setCell_same _ (w.heap.size+1) 1 _ 28 _ (heap_setCell_same U3 (w.heap.size+1) 0 _ 28 (.int .i64 0) k2.out)
 exact bodyPost_ret (results_pl3 Tryz.results35 rfl rfl rfl F1) rfl ⟨rfl,((jB HB.out kb.out).setCell (by simp) _).setCell (by simp) _⟩
theorem Assigns_un (w:World) (a ua:Option Addr) (n cap un ucap:Nat) (mn fn q:Int) (pv:Pv) (op:Nat) (hop:pv.op=op) (hbit:(fldO op).testBit 0=false)
  (h:∀ W,Below w.heap.size w W→Calls Tryz.prog 63 #[uV a n cap ua un ucap mn,.int .i64 fn,.int .i64 q] W fun e w'=>e=.returned (.tuple #[.agg (pC pv).toArray,.int .i64 0])∧Below W.heap.size W w') :
  Calls Tryz.prog 35 #[uV a n cap ua un ucap mn,.int .i64 fn,.int .i64 q] w fun e w'=>e=.returned (.tuple #[plV 0 none 0 0,.bool false,.int .i64 0])∧Below w.heap.size w w':=by
 obtain ⟨V,hV⟩:∃ V,V=(w.alloc (uO a n cap ua un ucap mn)).alloc (plO 0 none 0 0):=⟨_,rfl⟩
 have hB:Below w.heap.size w V:=by rw [hV];exact belA (belA bR)
 have A1:Hid (At V w.heap.size (uO a n cap ua un ucap mn)):=jH (by rw [hV];exact (At.new _ _).alloc _)
 have A2:Hid (At V (w.heap.size+1) (plO 0 none 0 0)):=jH (by rw [hV];exact at_snd _ _ _)
 have CG:=jH (h V hB)
 have HB:=jH hB
 have HV:=jH hV
 have CHAS:=fun W=>has_any op 0 (by omega) 1 rfl W _ hbit.symm
 have HOP:=jH hop
 have HCH:=jH CHAS
 clear CHAS hop hbit
 clear hV hB h
 go_enter Tryz.func35,Tryz.ntmps35
 go_upto_region 1 with fail
 change Code.wp _ _ _ _ ((w.alloc (uO a n cap ua un ucap mn)).alloc (plO 0 none 0 0))
 rw [← HV.out]
 clear HV
 obtain ⟨u0,u1,u2⟩:=A1.out.un
 go_upto_region 2 with (first
  | (go_at_call 63;refine CG.out.mono ?_;rintro e w1 ⟨rfl,hb1⟩;have HB1:=jH hb1;clear hb1 u0 u1 u2)
  | ((with_reducible show wpList _ _ _ (Oper.mk none (Op.store 65 _ _) _ _ _ none::_) _ _);refine wpl_store64 w1.heap.size (there_new w1 _ _ 21 rfl) (by simp) pv rfl rfl ?_;intro U3 hr3 hl3 hb3;have HR3:=jH hr3;have HL3:=jH hl3;have HBT3:=jH hb3;clear hr3 hb3 hl3))
 have kb:=jH (belBut (belA HB1.out) HBT3.out HB1.out.size (by have:=HB1.out.size;simp;omega))
 have k2:=jH (A2.out.below kb.out)
 obtain ⟨b9,hb9⟩:∃ b9,b9=w1.heap.size:=⟨_,rfl⟩
 rw [← hb9] at HR3 HL3 ⊢
 have hz1:w.heap.size+1<b9:=by have:=HB1.out.size;have:=A2.out.lt;omega
 clear HB1 HBT3 hb9 CG A1
 obtain ⟨x0,x1⟩:=k2.out.pl
 have xf0:=frozen_of_row U3 (w.heap.size+1) 0 _ _ k2.out
 have xf1:=frozen_of_row U3 (w.heap.size+1) 1 _ _ k2.out
 have xl:=k2.out.lt
 have hl9:=HL3.out
 have c0:U3.cell? ⟨b9,0,none⟩=some (.int .u8 (op:Int)):=(by rw [← HOP.out];exact HR3.out 0 _ rfl)
 go_wp2_with (go_at_call 64;refine (HCH.out _).mono ?_;rintro e w5 ⟨rfl,hw⟩;replace hw:=hw.symm;subst hw)
 have F1:At ((U3.setCell ⟨w.heap.size+1,0,none⟩ (.int .i64 0)).setCell ⟨w.heap.size+1,1,none⟩ (.slice none 0 0)) (w.heap.size+1) (plO 0 none 0 0):=heap_setCell_same _ (w.heap.size+1) 1 _ 28 _ (heap_setCell_same U3 (w.heap.size+1) 0 _ 28 (.int .i64 0) k2.out)
 exact bodyPost_ret (results_pl3 Tryz.results35 rfl rfl rfl F1) rfl ⟨rfl,((jB HB.out kb.out).setCell (by simp) _).setCell (by simp) _⟩
theorem Assigns_yes (w:World) (a ua:Option Addr) (n cap un ucap:Nat) (mn fn q:Int) (pv:Pv) (op:Nat) (hop:pv.op=op) (hbit:(fldO op).testBit 0=true) {tl:Int} {ta:Option Addr} {tn tc:Nat} (htp:pv.tp=⟨tl,ta,tn,tc⟩) {pp:List Int} (hP:PAt w ⟨tl,ta,tn,tc⟩ pp) (h8:pp.length≤1000)
  (h:∀ W,Below w.heap.size w W→Calls Tryz.prog 63 #[uV a n cap ua un ucap mn,.int .i64 fn,.int .i64 q] W fun e w'=>e=.returned (.tuple #[.agg (pC pv).toArray,.int .i64 0])∧Below W.heap.size W w') :
  Calls Tryz.prog 35 #[uV a n cap ua un ucap mn,.int .i64 fn,.int .i64 q] w fun e w'=>∃ (a':Option Addr) (cap':Nat),e=.returned (.tuple #[plV tl a' tn cap',.bool true,.int .i64 0])∧PAt w' ⟨tl,a',tn,cap'⟩ pp∧Below w.heap.size w w':=by
 obtain ⟨V,hV⟩:∃ V,V=(w.alloc (uO a n cap ua un ucap mn)).alloc (plO 0 none 0 0):=⟨_,rfl⟩
 have hB:Below w.heap.size w V:=by rw [hV];exact belA (belA bR)
 have A1:Hid (At V w.heap.size (uO a n cap ua un ucap mn)):=jH (by rw [hV];exact (At.new _ _).alloc _)
 have A2:Hid (At V (w.heap.size+1) (plO 0 none 0 0)):=jH (by rw [hV];exact at_snd _ _ _)
 have CG:=jH (h V hB)
 have HB:=jH hB
 have HV:=jH hV
 have CHAS:=fun W=>has_any op 0 (by omega) 1 rfl W _ hbit.symm
 have HOP:=jH hop
 have HCH:=jH CHAS
 clear CHAS hop hbit
 have HPP:=jH hP
 have HPN:=jH (show tn≤1000 by have h9:tn=pp.length:=hP.row.len;omega)
 have HTP:=jH htp
 clear hP h8 htp
 clear hV hB h
 go_enter Tryz.func35,Tryz.ntmps35
 go_upto_region 1 with fail
 change Code.wp _ _ _ _ ((w.alloc (uO a n cap ua un ucap mn)).alloc (plO 0 none 0 0))
 rw [← HV.out]
 clear HV
 obtain ⟨u0,u1,u2⟩:=A1.out.un
 go_upto_region 2 with (first
  | (go_at_call 63;refine CG.out.mono ?_;rintro e w1 ⟨rfl,hb1⟩;have HB1:=jH hb1;clear hb1 u0 u1 u2)
  | ((with_reducible show wpList _ _ _ (Oper.mk none (Op.store 65 _ _) _ _ _ none::_) _ _);refine wpl_store64 w1.heap.size (there_new w1 _ _ 21 rfl) (by simp) pv rfl rfl ?_;intro U3 hr3 hl3 hb3;have HR3:=jH hr3;have HL3:=jH hl3;have HBT3:=jH hb3;clear hr3 hb3 hl3))
 have kb:=jH (belBut (belA HB1.out) HBT3.out HB1.out.size (by have:=HB1.out.size;simp;omega))
 have k2:=jH (A2.out.below kb.out)
 obtain ⟨b9,hb9⟩:∃ b9,b9=w1.heap.size:=⟨_,rfl⟩
 rw [← hb9] at HR3 HL3 ⊢
 have hz1:w.heap.size+1<b9:=by have:=HB1.out.size;have:=A2.out.lt;omega
 clear HB1 HBT3 hb9 CG A1
 obtain ⟨x0,x1⟩:=k2.out.pl
 have xf0:=frozen_of_row U3 (w.heap.size+1) 0 _ _ k2.out
 have xf1:=frozen_of_row U3 (w.heap.size+1) 1 _ _ k2.out
 have xl:=k2.out.lt
 have hl9:=HL3.out
 have c0:U3.cell? ⟨b9,0,none⟩=some (.int .u8 (op:Int)):=(by rw [← HOP.out];exact HR3.out 0 _ rfl)
 have c1:U3.cell? ⟨b9,1,none⟩=some (.int .i64 tl):=(by have:=HR3.out 1 _ rfl;rw [HTP.out] at this;exact this)
 have c2:U3.cell? ⟨b9,2,none⟩=some (.slice ta tn tc):=(by have:=HR3.out 2 _ rfl;rw [HTP.out] at this;exact this)
 have CO:=jH (ownPlace_any U3 tl ta tn tc (HPP.out.bel (jB HB.out kb.out)) HPN.out)
 go_wp2_with (first
  | (go_at_call 64;refine (HCH.out _).mono ?_;rintro e w5 ⟨rfl,hw⟩;replace hw:=hw.symm;subst hw)
  | (go_at_call 65;refine CO.out.mono ?_;rintro e w6 ⟨a',cap',rfl,hP6,hb6⟩;have HP6:=jH hP6;have HB6:=jH hb6;have k6:=jH (k2.out.below hb6);clear x0 x1 xf0 xf1 xl hl9 c0 c1 c2;obtain ⟨x0,x1⟩:=k6.out.pl;have xf0:=frozen_of_row w6 (w.heap.size+1) 0 _ _ k6.out;have xf1:=frozen_of_row w6 (w.heap.size+1) 1 _ _ k6.out;have xl:=k6.out.lt;clear hP6 hb6))
 have F1:At ((w6.setCell ⟨w.heap.size+1,0,none⟩ (.int .i64 tl)).setCell ⟨w.heap.size+1,1,none⟩ (.slice a' tn cap')) (w.heap.size+1) (plO tl a' tn cap'):=heap_setCell_same _ (w.heap.size+1) 1 _ 28 _ (heap_setCell_same w6 (w.heap.size+1) 0 _ 28 (.int .i64 tl) k6.out)
 have hzV:=HB.out.size
 have hzk:=kb.out.size
 have F2:((w6.setCell ⟨w.heap.size+1,0,none⟩ (.int .i64 tl)).setCell ⟨w.heap.size+1,1,none⟩ (.slice a' tn cap')).ownsRow w.heap.size 123 1 (.slice a' tn cap') tn (iCells pp):=own_low (own_grow HP6.out ((But.set (But.refl _ _) 0 _).set 1 _) (fun g9 hg9 e=>by have:=own_lo HP6.out g9 hg9;have:=Option.some.inj e;have:=k2.out.lt;omega)) (by omega)
 exact bodyPost_ret (results_pl3 Tryz.results35 rfl rfl rfl F1) rfl ⟨a',cap',rfl,⟨own_read F2 HPP.out.row.rng HPP.out.row.len,HPP.out.l0,HPP.out.l1⟩,((jB (jB HB.out kb.out) HB6.out).setCell (by simp) _).setCell (by simp) _⟩
theorem Place_big {w:World} {a ua:Option Addr} {n cap un ucap:Nat} {mn:Int} {gs:List Grp} {j:Nat} {g:Grp} {cl:List Ch} {fc:Nat→List Ch} (h:UG1 w a ua n cap un ucap mn gs j g cl fc) {fc2:Nat→List Ch} (hX:∀ W,Below w.heap.size w W→∀ la ln lc,LcAt W la ln lc (cl.map Ch.ty)→Cx W a la n cap ln lc true fc2 cl) (hcn5:512<cntP gs (cntL g.lv cl) g.pt) (xl:Int) {d0:Ch} {gv0:List Int} (xa:Option Addr) (xn xcap:Nat) {p:List Int} (hP:PAt w ⟨xl,xa,xn,xcap⟩ p) (hw0:wyX true fc2 cl xl p=some (d0,gv0)) (hdp:d0.depth≤48) :
  Calls Tryz.prog 17 #[uV a n cap ua un ucap mn,.int .i64 (j:Int),plV xl xa xn xcap] w fun e w'=>e=.returned (.tuple #[zT.v,.int .i64 5])∧Below w.heap.size w w':=by
 obtain ⟨A2',A5',A6'⟩:=three_new w (uO a n cap ua un ucap mn) (plO xl xa xn xcap) zT.o
 have hB:Below w.heap.size w (((w.alloc (uO a n cap ua un ucap mn)).alloc (plO xl xa xn xcap)).alloc zT.o):=belA (belA (belA bR))
 obtain ⟨V,hV⟩:∃ V,V=(((w.alloc (uO a n cap ua un ucap mn)).alloc (plO xl xa xn xcap)).alloc zT.o):=⟨_,rfl⟩
 have hz:Hid (V.heap.size=w.heap.size+3):=jH (by rw [hV];simp only [World.size_alloc])
 rw [← hV] at A2' A5' A6' hB
 have A2:=jH A2'
 have A5:=jH A5'
 have A6:=jH A6'
 have HB:=jH hB
 have HV:=jH hV
 have CG:Hid (Calls Tryz.prog 36 #[uV a n cap ua un ucap mn,.int .i64 (j:Int),plV xl xa xn xcap] V fun e w'=>∃ f':Fv,e=.returned (.tuple #[f'.v,.int .i64 0])∧Below V.heap.size V w'):=jH ((gType_yes (h.bel hB) (hX V hB) xl xa xn xcap (hP.bel hB) hw0 hdp).mono fun e w' k=>by
  obtain ⟨f',h1,h2⟩:=k
  exact ⟨f',h1,h2.bel⟩)
 have CR:Hid (∀ W,Below V.heap.size V W→Calls Tryz.prog 43 #[uV a n cap ua un ucap mn,.int .i64 (j:Int)] W fun e w'=>e=.returned (.tuple #[rgV 0 0 0 (.slice none 0 0) (.slice none 0 0),.int .i64 5])∧Below W.heap.size W w'):=jH fun W hW=>(regionsOf_any (a:=a) (n:=n) (cap:=cap) ucap mn (h.rg.bel (jB hB hW))).mono fun e w' k=>⟨k.1.2 hcn5,k.2⟩
 clear h hX hB hV A2' A5' A6' hcn5 hP hw0 hdp
 go_enter Tryz.func17,Tryz.ntmps17
 go_upto_region 1 with fail
 change Code.wp _ _ _ _ (((w.alloc (uO a n cap ua un ucap mn)).alloc (plO xl xa xn xcap)).alloc zT.o)
 rw [← HV.out]
 clear HV
 obtain ⟨u0,u1,u2⟩:=A2.out.un
 obtain ⟨x0,x1⟩:=A5.out.pl
 go_upto_region 2 with (go_at_call 36;refine CG.out.mono ?_;rintro e w1 ⟨⟨k1,m1,r1,s1,a1,n1,c1⟩,rfl,hb1⟩;have HB1:=jH hb1;clear hb1 u0 u1 u2 x0 x1)
 have HB2:=jH (belA HB1.out (o:=tyO k1 m1 r1 s1 a1 n1 c1))
 change Code.wp _ _ _ _ (w1.alloc (tyO k1 m1 r1 s1 a1 n1 c1))
 generalize (w1.alloc (tyO k1 m1 r1 s1 a1 n1 c1))=U at HB2 ⊢
 clear HB1 CG
 obtain ⟨u0,u1,u2⟩:=(A2.out.below HB2.out).un
 go_upto_region 5 with (go_at_call 43;refine (CR.out U HB2.out).mono ?_;rintro e w2 ⟨rfl,hb2⟩;have HB3:=jH (jB HB2.out hb2);clear hb2 u0 u1 u2)
 have HB4:=jH (belA HB3.out (o:=(rgO 0 0 0 (.slice none 0 0) (.slice none 0 0))))
 change Code.wp _ _ _ _ (w2.alloc (rgO 0 0 0 (.slice none 0 0) (.slice none 0 0)))
 generalize (w2.alloc (rgO 0 0 0 (.slice none 0 0) (.slice none 0 0)))=U4 at HB4 ⊢
 have B4:=A6.out.below HB4.out
 have g0:=B4.tyF 0
 have g1:=B4.tyF 1
 have g2:=B4.tyF 2
 have g3:=B4.tyF 3
 have g4:=B4.tyF 4
 obtain ⟨hl4,q0,q1,q2,q3,q4⟩:=B4.ty
 simp only [Nat.zero_add] at q0 q1 q2 q3 q4
 go_wp2_with fail
 obtain ⟨F1,F2⟩:=new_zero (jB HB.out HB4.out) (b:=w.heap.size+1+1) (by omega) B4
 exact bodyPost_ret (results_c2 (g:=zT) Tryz.results17 rfl rfl F1) rfl ⟨rfl,F2.bel⟩
end Go.Proofs.YtdlggpcakaofoaaGreat
