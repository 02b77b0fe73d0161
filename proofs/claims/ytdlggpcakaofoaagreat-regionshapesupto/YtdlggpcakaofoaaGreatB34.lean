import Derived.Test.YtdlggpcakaofoaaGreatB33
namespace Go.Proofs.YtdlggpcakaofoaaGreat
open Go.RowKit Go.Shelf
set_option linter.unusedVariables false
set_option linter.unusedSimpArgs false
set_option maxRecDepth 100000
theorem wpl_load70 {w:World} {ops:Array Oper} {rest:List Oper} {a:Act} {Q:Exit→Act→World→Prop} {x d:Nat} {ty:TypeId} {pos:String} {after:Array Edge} (b o:Nat) (nm:ByteArray) (lv:Int) (oa:Option Addr) (on oc:Nat) (pa:Int) (la:Option Addr) (ln lc:Nat) (na:Option Addr) (nn nc:Nat) (qa:Option Addr) (qn qc:Nat) (hx:a.eval (.tmp x)=.pointer (some ⟨b,o,none⟩)) (hc:C7 w b o nm lv oa on oc pa la ln lc na nn nc qa qn qc)
  (h:wpList Tryz.prog ops Q rest (a.put (some d) (.agg #[.string nm,.int .i64 lv,.slice oa on oc,.int .i64 pa,.slice la ln lc,.slice na nn nc,.slice qa qn qc])) w):wpList Tryz.prog ops Q (⟨some d,.load 70 (.tmp x),ty,pos,after,none⟩::rest) a w :=
 wpList_load_mid rfl 70 (.tmp x) rfl b o hx [.string nm,.int .i64 lv,.slice oa on oc,.int .i64 pa,.slice la ln lc,.slice na nn nc,.slice qa qn qc] _ hc.2 Tryz.underlying70 rfl size56 h
theorem wpl_store70 {w:World} {ops:Array Oper} {rest:List Oper} {a9:Act} {Q:Exit→Act→World→Prop} {x y:Nat} {ty:TypeId} {pos:String} {after:Array Edge} (b:Nat) (nm:ByteArray) (lv:Int) (oa:Option Addr) (on oc:Nat) (pa:Int) (la:Option Addr) (ln lc:Nat) (na:Option Addr) (nn nc:Nat) (qa:Option Addr) (qn qc:Nat) (ht:w.there b 0 7) (hl:b<w.heap.size)
  (hx:a9.eval (.tmp x)=.pointer (some ⟨b,0,none⟩)) (hy:a9.eval (.tmp y)=.agg #[.string nm,.int .i64 lv,.slice oa on oc,.int .i64 pa,.slice la ln lc,.slice na nn nc,.slice qa qn qc])
  (h:∀ w',C7 w' b 0 nm lv oa on oc pa la ln lc na nn nc qa qn qc→But b w w'→wpList Tryz.prog ops Q rest a9 w'):wpList Tryz.prog ops Q (⟨none,.store 70 (.tmp x) (.tmp y),ty,pos,after,none⟩::rest) a9 w :=
 wpList_plain rfl fun K hK=>wp_store56 b nm lv oa on oc pa la ln lc na nn nc qa qn qc rfl rfl ht hl hx hy (fun w' h1 h2=>hK _ _ (h w' h1 h2))
structure RgIn (w:World) (ua:Option Addr) (un:Nat) (gs:List Grp) (j:Nat) (g:Grp) (cl:List Ch):Prop where
 un32:un≤32
 jn:j<un
 ex:∃ ug uo nm oa on oc pa la ln lc na nn nc qa qn qc,ua=some ⟨ug,uo,none⟩∧C7 w ug (uo+j*7) nm g.lv oa on oc pa la ln lc na nn nc qa qn qc∧LcAt w la ln lc (cl.map Ch.ty)∧PsL w qa qn qc g.pt
 ok:∀ c∈cl,Ok c
 lv0:0≤g.lv
 lv8:g.lv≤8
 cln:cl.length≤512
 ptn:g.pt.length≤1024
 call:∀ p∈g.pt,p.op=7→∃ (j':Nat) (g':Grp),p.fn=(j':Int)∧j'<un∧gs[j']?=some g'∧0≤g'.lv∧g'.lv≤8∧∀ ug uo,ua=some ⟨ug,uo,none⟩→ug<w.heap.size∧w.cell? ⟨ug,uo+j'*7+1,none⟩=some (.int .i64 g'.lv)
theorem RgIn.few {w:World} {ua:Option Addr} {un:Nat} {gs:List Grp} {j:Nat} {g:Grp} {cl:List Ch} (h:RgIn w ua un gs j g cl) {p:Pnt} (hp:p∈g.pt):0≤made gs p∧made gs p≤8:=by
 unfold made
 by_cases h4:p.op=4
 ·rw [if_pos h4];omega
 ·rw [if_neg h4]
  by_cases h7:p.op=7
  ·rw [if_pos h7]
   obtain ⟨j',g',h1,h2,h3,h5,h6,-⟩:=h.call p hp h7
   rw [h1,Int.toNat_natCast,h3]
   exact ⟨h5,h6⟩
  ·rw [if_neg h7];omega
theorem g2_of {B b10 g2 z:Nat} {ob:Option Nat} (hlo:∀ b,ob=some b→B≤b∧b<b10) (hw:ob=some g2∨g2=z) (h:B≤b10) (hz:b10<z):B≤g2∧b10≠g2:=by
 rcases hw with e|e
 ·have:=hlo g2 e
  omega
 ·omega
structure L1 (w V:World) (b6 b7 b8 B:Nat) (uo0:Obj) (nm:ByteArray) (lv:Int) (oa:Option Addr) (on oc:Nat) (pa:Int) (la:Option Addr) (ln lc:Nat) (na:Option Addr) (nn nc:Nat) (qa:Option Addr) (qn qc:Nat) (i:Nat) (cl:List Ch) (aL:Option Addr) (cL:Nat) (fl:List Fv) (lo hi:Nat→Nat):Prop where
 a2:At V w.heap.size uo0
 a4:At V (w.heap.size+1) (rgO 0 0 0 (.slice none 0 0) (.slice none 0 0))
 c6:C7 V b6 0 nm lv oa on oc pa la ln lc na nn nc qa qn qc
 a7:At V b7 (rgO lv qn (cntL lv (cl.take i)) (.slice aL i cL) (.slice none 0 0))
 a8:At V b8 (One (fnB 73 b7) 105)
 row:FRow V B (.slice aL i cL) (numR lv (cl.take i)) fl lo hi
 bel:Below w.heap.size w V
 B0:B≤V.heap.size
structure Bs (w:World) (b6 b7 b8 B:Nat):Prop where
 h6:w.heap.size+2≤b6
 h7:b6<b7
 h8:b7<b8
 hB:b8<B
theorem cell_heap {w w':World} {b:Nat} (h:w'.heap[b]?=w.heap[b]?) (o:Nat):w'.cell? ⟨b,o,none⟩=w.cell? ⟨b,o,none⟩:=by simp [World.cell?,h]
theorem C7.heap {w w':World} {g o:Nat} {nm:ByteArray} {lv:Int} {oa:Option Addr} {on oc:Nat} {pa:Int} {la:Option Addr} {ln lc:Nat} {na:Option Addr} {nn nc:Nat} {qa:Option Addr} {qn qc:Nat} (hh:w'.heap[g]?=w.heap[g]?) (hz:g<w'.heap.size) (h:C7 w g o nm lv oa on oc pa la ln lc na nn nc qa qn qc):C7 w' g o nm lv oa on oc pa la ln lc na nn nc qa qn qc:=⟨hz,fun j v hv=>(cell_heap hh _).trans (h.2 j v hv)⟩
theorem there_row {w:World} {B g n cap:Nat} {xs:List Value} (h:w.ownsRow B 46 5 (.slice (some ⟨g,0,none⟩) (n+1) cap) (n+1) xs) (hx:xs.length=(n+1)*5):w.there g (n*5) 5:=fun j hj=>by
 rw [h.cellAt (n*5+j) (by omega),List.getElem?_eq_getElem (by omega)]
 exact ⟨rfl,h.frozenAt _⟩
theorem L1.next {w V U W W2:World} {b6 b7 b8 B:Nat} {uo0:Obj} {nm:ByteArray} {lv:Int} {oa:Option Addr} {on oc:Nat} {pa:Int} {la:Option Addr} {ln lc:Nat} {na:Option Addr} {nn nc:Nat} {qa:Option Addr} {qn qc:Nat} {i:Nat} {cl:List Ch} {aL:Option Addr} {cL:Nat} {fl:List Fv} {lo hi:Nat→Nat} (h:L1 w V b6 b7 b8 B uo0 nm lv oa on oc pa la ln lc na nn nc qa qn qc i cl aL cL fl lo hi) (hb:Bs w b6 b7 b8 B) {c:Ch} (hc:cl[i]?=some c) {f2:Fv} {l1 h1:Nat} (hU:Below V.heap.size V U)
  (J:JG b7 b8 lv qn (cntL lv (cl.take i)) (.slice aL i cL) (.slice none 0 0) U c.regs W) (HO:OwnL W l1 h1 f2 (numC (cntL lv (cl.take i)) c)) (HR:U.heap.size≤l1∧l1≤h1∧h1≤W.heap.size) {g2 c2:Nat}
  (hrow:W2.ownsRow B 46 5 (.slice (some ⟨g2,0,none⟩) (i+1) c2) (i+1) (tCells fl++t5 zT)) (hg:W.grownBy W2 (Value.slice aL i cL).ownBlock) (hw:(Value.slice aL i cL).ownBlock=some g2∨g2=W.heap.size) :
  L1 w ((W2.setCells g2 (i*5) (t5 f2)).setCell ⟨b7,3,none⟩ (.slice (some ⟨g2,0,none⟩) (i+1) c2)) b6 b7 b8 B uo0 nm lv oa on oc pa la ln lc na nn nc qa qn qc (i+1) cl (some ⟨g2,0,none⟩) c2 (fl++[f2]) (upd lo i l1) (upd hi i h1):=by
 have hil:i<cl.length:=(List.getElem?_eq_some_iff.1 hc).1
 have hlen:(numR lv (cl.take i)).length=i:=by rw [numR_len,List.length_take];omega
 have hfl:fl.length=i:=by rw [h.row.len,hlen]
 obtain ⟨q6,q7,q8,qB⟩:=hb
 have hB0:=h.B0
 have hUs:=hU.size
 have hWs:=J.but.size
 have hlo:∀ b,(Value.slice aL i cL).ownBlock=some b→B≤b∧b<V.heap.size:=fun b e=>⟨own_lo h.row.row b e,(h.row.row.lt b e).2⟩
 have hFW:=(h.row.bel hU).grow J.but (fun b e=>by cases e;omega)
 obtain ⟨hr3,hg3⟩:=row_store (f:=f2) hrow hfl
 have hg23:B≤g2:=by rcases hw with e|e;exact (hlo _ e).1;omega
 obtain ⟨W3,hW3⟩:∃ W3,W3=W2.setCells g2 (i*5) (t5 f2):=⟨_,rfl⟩
 rw [← hW3] at hr3 hg3 ⊢
 have hgW:W.grownBy W3 (Value.slice aL i cL).ownBlock:=⟨hg3.os.trans hg.os,hg3.tape.trans hg.tape,hg3.output.trans hg.output,Nat.le_trans hg.size hg3.size,fun x hx hn=>by
  refine (hg3.block x (Nat.lt_of_lt_of_le hx hg.size) (fun e=>?_)).trans (hg.block x hx hn)
  cases e
  rcases hw with e|e
  ·exact hn e.symm
  ·omega⟩
 have hF3:=hFW.snoc HO (by omega) HR.2.1 HR.2.2 (fun k hk=>by have:=(h.row.rng k hk).2.2.1;omega) (fun b e=>by have:=hlo b e;omega) (by rw [hlen];exact hr3) hgW (fun b e=>by
  simp only [Value.ownBlock,Option.some.injEq] at e
  subst e
  rcases hw with e|e
  ·exact .inl e
  ·exact .inr (by omega))
 rw [hlen] at hF3
 have hs3:=hgW.size
 have heap:∀ x,x<B→x≠b7→(W3.setCell ⟨b7,3,none⟩ (.slice (some ⟨g2,0,none⟩) (i+1) c2)).heap[x]?=V.heap[x]?:=fun x hx hx7=>by
  rw [heap_setCell_other _ ⟨b7,3,none⟩ x _ (by simpa using hx7),hgW.block x (by omega) (fun e=>by have:=hlo x e.symm;omega),J.but.block x (by omega) (fun e=>hx7 (Option.some.inj e)),hU.block x (by omega)]
 have hbut:But b7 W3 (W3.setCell ⟨b7,3,none⟩ (.slice (some ⟨g2,0,none⟩) (i+1) c2)):=(But.refl _ _).set 3 _
 have hcn:cntL lv (cl.take (i+1))=cntL lv (cl.take i)+(negs c.regs:Nat):=by rw [List.take_add_one,hc];exact cntL_snoc _ _ _
 have hnr:numR lv (cl.take (i+1))=numR lv (cl.take i)++[numC (cntL lv (cl.take i)) c]:=by rw [List.take_add_one,hc];exact numR_snoc _ _ _
 refine ⟨(heap _ (by omega) (by omega)).trans h.a2,(heap _ (by omega) (by omega)).trans h.a4,h.c6.heap (heap _ (by omega) (by omega)) (by rw [World.size_setCell];omega),?_,(heap _ (by omega) (by omega)).trans h.a8,?_,?_,by rw [World.size_setCell];omega⟩
 ·rw [hcn]
  exact (J.a7.grown hgW (fun e=>by have:=hlo b7 e.symm;omega)).rg3 _ _ _
 ·rw [hnr]
  exact hF3.grow hbut (fun b e=>by cases e;omega)
 ·refine (((jB h.bel hU).grown J.but (by have:=h.bel.size;omega) (fun k e=>by cases e;omega)).grown hgW (by have:=h.bel.size;omega) (fun k e=>by have:=hlo k e;omega)).setCell (p:=⟨b7,3,none⟩) (by simp only;omega) _
abbrev S5R (w:World) (b:Nat) (lv np cn:Int) (aL:Option Addr) (i cL:Nat) (aA:Option Addr) (q cA:Nat):World:=((((w.setCell ⟨b,0,none⟩ (.int .i64 lv)).setCell ⟨b,1,none⟩ (.int .i64 np)).setCell ⟨b,2,none⟩ (.int .i64 cn)).setCell ⟨b,3,none⟩ (.slice aL i cL)).setCell ⟨b,4,none⟩ (.slice aA q cA)
theorem but_s5r (w:World) (b:Nat) (lv np cn:Int) (aL:Option Addr) (i cL:Nat) (aA:Option Addr) (q cA:Nat):But b w (S5R w b lv np cn aL i cL aA q cA):=(((((But.refl b w).set 0 _).set 1 _).set 2 _).set 3 _).set 4 _
theorem At.set5R {w:World} {b:Nat} {lv0 np0 cn0:Int} {v0 v1:Value} (h:At w b (rgO lv0 np0 cn0 v0 v1)) (lv np cn:Int) (aL:Option Addr) (i cL:Nat) (aA:Option Addr) (q cA:Nat):At (S5R w b lv np cn aL i cL aA q cA) b (rgO lv np cn (.slice aL i cL) (.slice aA q cA)):=by
 have h0:At (w.setCell ⟨b,0,none⟩ (.int .i64 lv)) b (rgO lv np0 cn0 v0 v1):=heap_setCell_same w b 0 _ 35 (.int .i64 lv) h
 have h1:At ((w.setCell ⟨b,0,none⟩ (.int .i64 lv)).setCell ⟨b,1,none⟩ (.int .i64 np)) b (rgO lv np cn0 v0 v1):=heap_setCell_same _ b 1 _ 35 (.int .i64 np) h0
 exact ((h1.rg2 cn).rg3 aL i cL).rg4 aA q cA
theorem FRow.low {W:World} {B B':Nat} {v:Value} {cs:List Ch} {fl:List Fv} {lo hi:Nat→Nat} (h:FRow W B v cs fl lo hi) (hb:B'≤B):FRow W B' v cs fl lo hi:=⟨h.len,own_low h.row hb,h.own,fun i hi=>⟨Nat.le_trans hb (h.rng i hi).1,(h.rng i hi).2⟩,h.ord⟩
theorem results_r2 {fn:Func} {i j:Nat} (h:fn.results=#[.cell i 35,.tmp j]) {tmps:Array Value} {W:World} {b4:Nat} {lv np cn:Int} {vL vA:Value} {v:Value} (ht:tmps.getD i undef=.pointer (some ⟨b4,0,none⟩)) (hv:tmps.getD j undef=v) (hC:At W b4 (rgO lv np cn vL vA)):(results fn tmps).run Tryz.prog W=.ok (.tuple #[rgV lv np cn vL vA,v]) W:=by
 obtain ⟨e0,e1,e2,e3,e4⟩:=hC.rg
 have ht2:tmps[i]?.getD undef=.pointer (some ⟨b4,0,none⟩):=by rw [← ht];simp
 have hv2:tmps[j]?.getD undef=v:=by rw [← hv];simp
 simp only [results,h]
 simp [go_sem,ht2,hv2,e0,e1,e2,e3,e4]
theorem but_more {b b2:Nat} {x y z:World} (h:But b x y) (k:But b2 y z) (hb:x.heap.size≤b2):But b x z:=⟨k.os.trans h.os,k.tape.trans h.tape,k.output.trans h.output,Nat.le_trans h.size k.size,fun i hi hn=>(k.block i (Nat.lt_of_lt_of_le hi h.size) (fun e=>by cases e;omega)).trans (h.block i hi hn)⟩
theorem at_next {V5 W5 w6:World} {b7:Nat} {lv np cn:Int} {vL:Value} {aA:Option Addr} {q cA g5 c5:Nat} {L:List Int} {x:Int} (hb:b7<V5.heap.size) (hB:But b7 V5 W5) (h7:At W5 b7 (rgO lv np cn vL (.slice aA q cA))) (hr:W5.ownsRow V5.heap.size 3 1 (.slice aA q cA) q (iCells L))
  (hr6:w6.ownsRow V5.heap.size 3 1 (.slice (some ⟨g5,0,none⟩) (q+1) c5) (q+1) (iCells L++[.int .i64 x])) (hg:(W5.alloc (.cells #[.int .i64 x] 3)).grownBy w6 (Value.slice aA q cA).ownBlock) :
  At w6 b7 (rgO lv np cn vL (.slice aA q cA))∧But b7 V5 (w6.setCell ⟨b7,4,none⟩ (.slice (some ⟨g5,0,none⟩) (q+1) c5))∧At (w6.setCell ⟨b7,4,none⟩ (.slice (some ⟨g5,0,none⟩) (q+1) c5)) b7 (rgO lv np cn vL (.slice (some ⟨g5,0,none⟩) (q+1) c5))∧(w6.setCell ⟨b7,4,none⟩ (.slice (some ⟨g5,0,none⟩) (q+1) c5)).ownsRow V5.heap.size 3 1 (.slice (some ⟨g5,0,none⟩) (q+1) c5) (q+1) (iCells (L++[x])):=by
 have hlo:∀ b,(Value.slice aA q cA).ownBlock=some b→V5.heap.size≤b:=fun b e=>own_lo hr b e
 have h76:At w6 b7 (rgO lv np cn vL (.slice aA q cA)):=(h7.alloc _).grown hg (fun e=>by have:=hlo b7 e.symm;omega)
 have hg5:V5.heap.size≤g5:=own_lo hr6 g5 rfl
 have hs:=hB.size
 have hs6:=hg.size
 simp only [World.size_alloc] at hs6
 refine ⟨h76,?_,h76.rg4 _ _ _,?_⟩
 ·refine But.set ?_ 4 _
  refine ⟨hg.os.trans hB.os,hg.tape.trans hB.tape,hg.output.trans hB.output,by omega,fun i hi hn=>?_⟩
  rw [hg.block i (by simp only [World.size_alloc];omega) (fun e=>by have:=hlo i e.symm;omega)]
  rw [Below.heap_alloc W5 _ i (by omega)]
  exact hB.block i hi hn
 ·have:=own_grow hr6 ((But.refl b7 w6).set 4 (.slice (some ⟨g5,0,none⟩) (q+1) c5)) (fun g e=>by simp only [Value.ownBlock,Option.some.injEq] at e;intro e2;cases e2;omega)
  simpa [iCells] using this
end Go.Proofs.YtdlggpcakaofoaaGreat
