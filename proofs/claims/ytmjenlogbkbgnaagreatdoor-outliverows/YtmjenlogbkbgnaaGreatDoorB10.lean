import Derived.Test.YtmjenlogbkbgnaaGreatDoorB09
namespace Go.Proofs.YtmjenlogbkbgnaaGreatDoor
open Go.RowKit Go.Shelf
set_option linter.unusedVariables false
set_option linter.unusedSimpArgs false
set_option maxRecDepth 100000
set_option maxHeartbeats 8000000
structure Gy where
 f:Fv
 br:Bool
 bs:Bool
abbrev gyV (k:Nat) (m:Bool) (r s:Int) (a:Option Addr) (n cap:Nat) (br bs:Bool):Value:=.agg #[.int .u8 (k:Int),.bool m,.int .i64 r,.int .i64 s,.slice a n cap,.bool br,.bool bs]
abbrev gyO (k:Nat) (m:Bool) (r s:Int) (a:Option Addr) (n cap:Nat) (br bs:Bool):Obj:=.cells #[.int .u8 (k:Int),.bool m,.int .i64 r,.int .i64 s,.slice a n cap,.bool br,.bool bs] 246 (0,0)
abbrev Gy.v (y:Gy):Value:=gyV y.f.k y.f.m y.f.r y.f.s y.f.a y.f.n y.f.cap y.br y.bs
abbrev Gy.o (y:Gy):Obj:=gyO y.f.k y.f.m y.f.r y.f.s y.f.a y.f.n y.f.cap y.br y.bs
abbrev zG:Gy:=⟨zT,false,false⟩
theorem At.gy {w:World} {b:Nat} {y:Gy} (h:At w b y.o):C5 w b 0 y.f∧w.cell? ⟨b,5,none⟩=some (.bool y.br)∧w.cell? ⟨b,6,none⟩=some (.bool y.bs):=by
 unfold At at h
 exact ⟨⟨lt_of_block h,by simp [World.cell?,h],by simp [World.cell?,h],by simp [World.cell?,h],by simp [World.cell?,h],by simp [World.cell?,h]⟩,by simp [World.cell?,h],by simp [World.cell?,h]⟩
theorem At.gyF {w:World} {b:Nat} {y:Gy} (h:At w b y.o) (o:Nat):w.frozen? ⟨b,o,none⟩=false:=frozen_of_row w b o _ 246 h
theorem atGy5 {w:World} {b:Nat} {y:Gy} (h:At w b y.o) (g:Fv):At (S5 w b g) b (Gy.o ⟨g,y.br,y.bs⟩):=by
 have h1:=heap_setCell_same w b 0 _ 246 (.int .u8 (g.k:Int)) h
 have h2:=heap_setCell_same _ b 1 _ 246 (.bool g.m) h1
 have h3:=heap_setCell_same _ b 2 _ 246 (.int .i64 g.r) h2
 have h4:=heap_setCell_same _ b 3 _ 246 (.int .i64 g.s) h3
 have h5:=heap_setCell_same _ b 4 _ 246 (.slice g.a g.n g.cap) h4
 exact h5
theorem atGyR {w:World} {b:Nat} {y:Gy} (h:At w b y.o) (x:Bool):At (w.setCell ⟨b,5,none⟩ (.bool x)) b (Gy.o ⟨y.f,x,y.bs⟩):=heap_setCell_same w b 5 _ 246 (.bool x) h
theorem atGyS {w:World} {b:Nat} {y:Gy} (h:At w b y.o) (x:Bool):At (w.setCell ⟨b,6,none⟩ (.bool x)) b (Gy.o ⟨y.f,y.br,x⟩):=heap_setCell_same w b 6 _ 246 (.bool x) h
abbrev S7 (w:World) (b:Nat) (y:Gy):World:=((S5 w b y.f).setCell ⟨b,5,none⟩ (.bool y.br)).setCell ⟨b,6,none⟩ (.bool y.bs)
theorem atGy7 {w:World} {b:Nat} {y:Gy} (h:At w b y.o) (z:Gy):At (S7 w b z) b z.o:=atGyS (atGyR (atGy5 h z.f) z.br) z.bs
theorem but_s7 (w:World) (b:Nat) (z:Gy):But b w (S7 w b z):=((but_s5 w b z.f).set 5 _).set 6 _
theorem wpl_storeG {w:World} {ops:Array Oper} {rest:List Oper} {a:Act} {Q:Exit→Act→World→Prop} {x y:Nat} {ty:TypeId} {pos:String} {after:Array Edge} (b:Nat) (y0 z:Gy) (hA:At w b y0.o)
  (hx:a.eval (.tmp x)=.pointer (some ⟨b,0,none⟩)) (hy:a.eval (.tmp y)=z.v) (h:∀ w',At w' b z.o→But b w w'→wpList Tryz.prog ops Q rest a w'):wpList Tryz.prog ops Q (⟨none,.store 246 (.tmp x) (.tmp y),ty,pos,after,none⟩::rest) a w:=by
 refine wpList_plain rfl fun K hK=>?_
 have g0:=hA.gyF 0
 have g1:=hA.gyF 1
 have g2:=hA.gyF 2
 have g3:=hA.gyF 3
 have g4:=hA.gyF 4
 have g5:=hA.gyF 5
 have g6:=hA.gyF 6
 obtain ⟨⟨hl,q0,q1,q2,q3,q4⟩,q5,q6⟩:=hA.gy
 simp only [Nat.zero_add] at q0 q1 q2 q3 q4
 have hx2:a.tmps[x]?.getD undef=.pointer (some ⟨b,0,none⟩):=by rw [← hx];simp [Act.eval]
 have hy2:a.tmps[y]?.getD undef=z.v:=by rw [← hy];simp [Act.eval]
 unfold Oper.wp
 simp [execOp,hx2,hy2,go_sem,q0,q1,q2,q3,q4,q5,q6,g0,g1,g2,g3,g4,g5,g6]
 exact hK _ _ (h _ (atGy7 hA z) (but_s7 _ _ z))
theorem wpl_storeGT {w:World} {ops:Array Oper} {rest:List Oper} {a:Act} {Q:Exit→Act→World→Prop} {x y:Nat} {ty:TypeId} {pos:String} {after:Array Edge} (b:Nat) (y0:Gy) (f:Fv) (hA:At w b y0.o)
  (hx:a.eval (.tmp x)=.pointer (some ⟨b,0,none⟩)) (hy:a.eval (.tmp y)=f.v) (h:∀ w',At w' b (Gy.o ⟨f,y0.br,y0.bs⟩)→But b w w'→wpList Tryz.prog ops Q rest a w'):wpList Tryz.prog ops Q (⟨none,.store 43 (.tmp x) (.tmp y),ty,pos,after,none⟩::rest) a w:=by
 refine wpList_plain rfl fun K hK=>?_
 have g0:=hA.gyF 0
 have g1:=hA.gyF 1
 have g2:=hA.gyF 2
 have g3:=hA.gyF 3
 have g4:=hA.gyF 4
 have g5:=hA.gyF 5
 have g6:=hA.gyF 6
 obtain ⟨⟨hl,q0,q1,q2,q3,q4⟩,q5,q6⟩:=hA.gy
 simp only [Nat.zero_add] at q0 q1 q2 q3 q4
 have hx2:a.tmps[x]?.getD undef=.pointer (some ⟨b,0,none⟩):=by rw [← hx];simp [Act.eval]
 have hy2:a.tmps[y]?.getD undef=f.v:=by rw [← hy];simp [Act.eval]
 unfold Oper.wp
 simp [execOp,hx2,hy2,go_sem,q0,q1,q2,q3,q4,q5,q6,g0,g1,g2,g3,g4,g5,g6]
 exact hK _ _ (h _ (atGy5 hA f) (but_s5 _ _ f))
theorem wpl_storeGR {w:World} {ops:Array Oper} {rest:List Oper} {a:Act} {Q:Exit→Act→World→Prop} {x:Nat} {ty:TypeId} {pos:String} {after:Array Edge} (b:Nat) (y0:Gy) (hA:At w b y0.o)
  (hx:a.eval (.tmp x)=.pointer (some ⟨b,5,none⟩)) (h:∀ w',At w' b (Gy.o ⟨y0.f,true,y0.bs⟩)→But b w w'→wpList Tryz.prog ops Q rest a w'):wpList Tryz.prog ops Q (⟨none,(.store 4 (.tmp x) (.const (.bool true))),ty,pos,after,none⟩::rest) a w:=by
 refine wpList_plain rfl fun K hK=>?_
 have g0:=hA.gyF 0
 have g1:=hA.gyF 1
 have g2:=hA.gyF 2
 have g3:=hA.gyF 3
 have g4:=hA.gyF 4
 have g5:=hA.gyF 5
 have g6:=hA.gyF 6
 obtain ⟨⟨hl,q0,q1,q2,q3,q4⟩,q5,q6⟩:=hA.gy
 simp only [Nat.zero_add] at q0 q1 q2 q3 q4
 have hx2:a.tmps[x]?.getD undef=.pointer (some ⟨b,5,none⟩):=by rw [← hx];simp [Act.eval]
 unfold Oper.wp
 simp [execOp,hx2,go_sem,q0,q1,q2,q3,q4,q5,q6,g0,g1,g2,g3,g4,g5,g6]
 exact hK _ _ (h _ (atGyR hA true) ((But.refl b w).set 5 _))
theorem wpl_storeGS {w:World} {ops:Array Oper} {rest:List Oper} {a:Act} {Q:Exit→Act→World→Prop} {x y:Nat} {ty:TypeId} {pos:String} {after:Array Edge} (b:Nat) (y0:Gy) (z:Bool) (hA:At w b y0.o)
  (hx:a.eval (.tmp x)=.pointer (some ⟨b,6,none⟩)) (hy:a.eval (.tmp y)=.bool z) (h:∀ w',At w' b (Gy.o ⟨y0.f,y0.br,z⟩)→But b w w'→wpList Tryz.prog ops Q rest a w'):wpList Tryz.prog ops Q (⟨none,.store 4 (.tmp x) (.tmp y),ty,pos,after,none⟩::rest) a w:=by
 refine wpList_plain rfl fun K hK=>?_
 have g0:=hA.gyF 0
 have g1:=hA.gyF 1
 have g2:=hA.gyF 2
 have g3:=hA.gyF 3
 have g4:=hA.gyF 4
 have g5:=hA.gyF 5
 have g6:=hA.gyF 6
 obtain ⟨⟨hl,q0,q1,q2,q3,q4⟩,q5,q6⟩:=hA.gy
 simp only [Nat.zero_add] at q0 q1 q2 q3 q4
 have hx2:a.tmps[x]?.getD undef=.pointer (some ⟨b,6,none⟩):=by rw [← hx];simp [Act.eval]
 have hy2:a.tmps[y]?.getD undef=.bool z:=by rw [← hy];simp [Act.eval]
 unfold Oper.wp
 simp [execOp,hx2,hy2,go_sem,q0,q1,q2,q3,q4,q5,q6,g0,g1,g2,g3,g4,g5,g6]
 exact hK _ _ (h _ (atGyS hA z) ((But.refl b w).set 6 _))
theorem results_g2 {fn:Func} {i j:Nat} (h:fn.results=#[.cell i 246,.tmp j]) {tmps:Array Value} {W:World} {b4:Nat} {g:Gy} {v:Value} (ht:tmps.getD i undef=.pointer (some ⟨b4,0,none⟩)) (hv:tmps.getD j undef=v) (hC:At W b4 g.o):(results fn tmps).run Tryz.prog W=.ok (.tuple #[g.v,v]) W:=by
 obtain ⟨⟨-,e0,e1,e2,e3,e4⟩,e5,e6⟩:=hC.gy
 simp only [Nat.zero_add] at e0 e1 e2 e3 e4
 have ht2:tmps[i]?.getD undef=.pointer (some ⟨b4,0,none⟩):=by rw [← ht];simp
 have hv2:tmps[j]?.getD undef=v:=by rw [← hv];simp
 simp only [results,h]
 simp [go_sem,ht2,hv2,e0,e1,e2,e3,e4,e5,e6]
theorem Tryz.results214:Tryz.f214.results=#[.cell 6 246,.tmp 7]:=rfl
theorem Tryz.results193:Tryz.f193.results=#[.cell 4 246,.tmp 5]:=rfl
structure SS (w V:World) (y z:Gy):Prop where
 a4:At V w.heap.size y.o
 a6:At V (w.heap.size+1) z.o
 bel:Below w.heap.size w V
theorem SS.start (w:World) (y z:Gy):SS w ((w.alloc y.o).alloc z.o) y z:=⟨(At.new _ _).alloc _,at_snd _ _ _,belA (belA bR)⟩
theorem SS.s4 {w V V':World} {y z y':Gy} (h:SS w V y z) (hA:At V' w.heap.size y'.o) (hb:But w.heap.size V V'):SS w V' y' z :=
 ⟨hA,h.a6.grown hb (by simp),belBut h.bel hb (Nat.le_refl _) h.bel.size⟩
theorem SS.s6 {w V V':World} {y z z':Gy} (h:SS w V y z) (hA:At V' (w.heap.size+1) z'.o) (hb:But (w.heap.size+1) V V'):SS w V' y z' :=
 ⟨h.a4.grown hb (by simp),hA,belBut h.bel hb (by omega) h.bel.size⟩
theorem SS.drewN {w V:World} {y z:Gy} (h:SS w V y z) (d:Nat):SS w (V.drewN d) y z:=⟨h.a4,h.a6,belN h.bel d⟩
def StepPost (R:Option (Ch × Int)) (w0:World) (br bs:Bool) (e:Ending):Prop:=match R with
 | some x=>∃ f':Fv,e=.returned (.tuple #[Gy.v ⟨f',br || decide (2≤x.2),bs || decide (x.2=3)⟩,.bool true])∧TyAt w0 f' x.1.ty
 | none=>∃ y:Gy,e=.returned (.tuple #[y.v,.bool false])
theorem stepOn_any {w0 w:World} (hB0:Below w0.heap.size w0 w) {a:Option Addr} {n cap:Nat} {fc:Nat→List Ch} (h:SF w0 a n cap fc) (b:Nat) (hs:b<w.heap.size∧w.cell? ⟨b,21,none⟩=some (.slice a n cap)) (c:Ch) (f:Fv) (br bs:Bool) (hc:c.ok n) (hT:TyAt w0 f c.ty) (s:Int) (R:Option (Ch × Int)) (hR:R=stepC fc c s) :
  Calls Tryz.prog 214 #[.pointer (some ⟨b,0,none⟩),Gy.v ⟨f,br,bs⟩,.int .i64 s] w fun e w'=>StepPost R w0 br bs e∧Below w.heap.size w w':=by
 have HS:=jH (SS.start w ⟨f,br,bs⟩ zG)
 cases c with
 | leaf k sn =>
  obtain ⟨fa0,fcap0,rfl,-⟩:=hT.leaf
  have hk5:(k=1∨k=2)∧sn=0∨k=5∧0≤sn∧sn<n:=hc
  by_cases k5:k=5
  ·subst k5
   obtain ⟨j,rfl⟩:∃ j:Nat,sn=(j:Int):=⟨sn.toNat,by omega⟩
   have hj:j<n:=by omega
   obtain ⟨g,off,fa,fcap,ea,hg,hcell,hF⟩:=h.st j hj
   replace hcell:=(hB0.cell (p:=⟨g,off+j*2+1,none⟩) hg).trans hcell
   replace hg:=Nat.lt_of_lt_of_le hg hB0.size
   have hlen:=h.len j hj
   subst ea
   have HF0:=jH hF
   obtain ⟨m,hm⟩:∃ m,m=(fc j).length:=⟨_,rfl⟩
   rw [← hm] at hcell hlen
   have HM:=jH hm
   have e0:stepC fc (.leaf 5 (j:Int)) s=if 0≤s then ((fc j)[s.toNat]?).map (fun d=>(d,0)) else none:=by
    rw [stepC_leaf]
    simp
   rw [e0] at hR
   have j0:(0:Int)≤(j:Int):=by omega
   have j1:(j:Int)<(n:Int):=by omega
   have j2:(j:Int)≤32:=by have:=h.le;omega
   obtain ⟨hsl,hs21⟩:=hs
   clear hc hT hF hm hk5 e0
   show Calls Tryz.prog 214 #[.pointer (some ⟨b,0,none⟩),gyV 5 false 0 (j:Int) fa0 0 fcap0 br bs,.int .i64 s] w _
   by_cases hs0:s<0
   ·rw [if_neg (by omega)] at hR
    subst hR
    clear h HF0
    go_enter Tryz.func214,Tryz.ntmps214
    have HD:Hid (∀ d,SS w (((w.alloc (Gy.o ⟨⟨5,false,0,(j:Int),fa0,0,fcap0⟩,br,bs⟩)).alloc zG.o).drewN d) ⟨⟨5,false,0,(j:Int),fa0,0,fcap0⟩,br,bs⟩ zG):=fun d=>HS.out.drewN d
    clear HS
    go_upto_region 5 with fail
    go_quiet (fail)
    go_wp2_with ((with_reducible show wpList _ _ _ (Oper.mk none (Op.store 246 _ _) _ _ _ none::_) _ _);refine wpl_storeG (w.heap.size+1) zG zG (HD.out _).a6 rfl rfl ?_;intro w9 hA9 hB9;have HF:=jH ((HD.out _).s6 hA9 hB9);clear hA9 hB9)
    exact bodyPost_ret (results_g2 (g:=zG) Tryz.results214 rfl rfl HF.out.a6) rfl ⟨⟨zG,rfl⟩,HF.out.bel⟩
   ·rw [if_pos (by omega)] at hR
    obtain ⟨i,rfl⟩:∃ i:Nat,s=(i:Int):=⟨s.toNat,by omega⟩
    rw [Int.toNat_natCast] at hR
    by_cases hi:i<m
    ·obtain ⟨d,hd⟩:∃ d,(fc j)[i]?=some d:=⟨_,List.getElem?_eq_getElem (by have:=HM.out;omega)⟩
     rw [hd] at hR
     have hR2:R=some (d,0):=hR
     subst hR2
     have hd2:((fc j).map Ch.ty)[i]?=some d.ty:=by rw [List.getElem?_map,hd];rfl
     obtain ⟨g',off',ea',hk⟩:=HF0.out.2 (fun e=>by rw [e] at hd2;simp at hd2)
     obtain ⟨V,nm,-,hV5,hVt⟩:=hk i d.ty hd2
     subst ea'
     have HVT:=jH hVt
     obtain ⟨hg',p0,p1,p2,p3,p4⟩:=hV5.below hB0
     have i0:(0:Int)≤(i:Int):=by omega
     have i1:(i:Int)<(m:Int):=by omega
     have i2:¬ (m:Int)≤(i:Int):=by omega
     have i3:¬ (i:Int)<0:=by omega
     have HD:Hid (∀ d,SS w (((w.alloc (Gy.o ⟨⟨5,false,0,(j:Int),fa0,0,fcap0⟩,br,bs⟩)).alloc zG.o).drewN d) ⟨⟨5,false,0,(j:Int),fa0,0,fcap0⟩,br,bs⟩ zG):=fun d=>HS.out.drewN d
     clear h HF0 hd hd2 hR hk hVt hs0 hV5 hB0 HS
     go_enter Tryz.func214,Tryz.ntmps214
     go_upto_region 5 with fail
     go_quiet (fail)
     go_wp2_with (first
      | ((with_reducible show wpList _ _ _ (Oper.mk none (Op.store 43 _ _) _ _ _ none::_) _ _);refine wpl_storeGT w.heap.size ⟨⟨5,false,0,(j:Int),fa0,0,fcap0⟩,br,bs⟩ V (HD.out _).a4 rfl rfl ?_;intro HEw hA9 hB9;have HE:=jH ((HD.out _).s4 hA9 hB9);clear hA9 hB9 ;obtain ⟨⟨-,x0,x1,x2,x3,x4⟩,x5,x6⟩:=HE.out.a4.gy;simp only [Nat.zero_add] at x0 x1 x2 x3 x4)
      | ((with_reducible show wpList _ _ _ (Oper.mk none (Op.store 246 _ _) _ _ _ none::_) _ _);refine wpl_storeG (w.heap.size+1) zG ⟨V,br,bs⟩ HE.out.a6 rfl rfl ?_;intro w9 hA9 hB9;have HF:=jH (HE.out.s6 hA9 hB9);clear hA9 hB9))
     exact bodyPost_ret (results_g2 (g:=⟨V,br,bs⟩) Tryz.results214 rfl rfl HF.out.a6) rfl ⟨⟨V,by simp,HVT.out⟩,HF.out.bel⟩
    ·have hd:(fc j)[i]?=none:=List.getElem?_eq_none (by have:=HM.out;omega)
     rw [hd] at hR
     have hR2:R=none:=hR
     subst hR2
     have i2:(m:Int)≤(i:Int):=by omega
     have i3:¬ (i:Int)<0:=by omega
     have HD:Hid (∀ d,SS w (((w.alloc (Gy.o ⟨⟨5,false,0,(j:Int),fa0,0,fcap0⟩,br,bs⟩)).alloc zG.o).drewN d) ⟨⟨5,false,0,(j:Int),fa0,0,fcap0⟩,br,bs⟩ zG):=fun d=>HS.out.drewN d
     clear h HF0 hd hR hs0 HS
     go_enter Tryz.func214,Tryz.ntmps214
     go_upto_region 5 with fail
     go_quiet (fail)
     go_wp2_with ((with_reducible show wpList _ _ _ (Oper.mk none (Op.store 246 _ _) _ _ _ none::_) _ _);refine wpl_storeG (w.heap.size+1) zG zG (HD.out _).a6 rfl rfl ?_;intro w9 hA9 hB9;have HF:=jH ((HD.out _).s6 hA9 hB9);clear hA9 hB9)
     exact bodyPost_ret (results_g2 (g:=zG) Tryz.results214 rfl rfl HF.out.a6) rfl ⟨⟨zG,rfl⟩,HF.out.bel⟩
  ·rw [stepC_leaf,if_neg (fun e=>k5 e.1)] at hR
   subst hR
   have k1:¬ (k:Int)=5:=by omega
   have k3:¬ (k:Int)=3:=by omega
   have k4:¬ (k:Int)=4:=by omega
   clear h hc hT hk5 hs
   show Calls Tryz.prog 214 #[.pointer (some ⟨b,0,none⟩),gyV k false 0 sn fa0 0 fcap0 br bs,.int .i64 s] w _
   go_enter Tryz.func214,Tryz.ntmps214
   go_wp2_with ((with_reducible show wpList _ _ _ (Oper.mk none (Op.store 246 _ _) _ _ _ none::_) _ _);refine wpl_storeG (w.heap.size+1) zG zG HS.out.a6 rfl rfl ?_;intro w9 hA9 hB9;have HF:=jH (HS.out.s6 hA9 hB9);clear hA9 hB9)
   exact bodyPost_ret (results_g2 (g:=zG) Tryz.results214 rfl rfl HF.out.a6) rfl ⟨⟨zG,rfl⟩,HF.out.bel⟩
 | box d =>
  obtain ⟨g,off,cap',f2,rfl,hc5,ht2⟩:=hT.box
  rw [stepC_box] at hR
  have HVT:=jH ht2
  obtain ⟨hg,p0,p1,p2,p3,p4⟩:=hc5.below hB0
  clear hc5
  clear h hc hT ht2 hB0 hs
  show Calls Tryz.prog 214 #[.pointer (some ⟨b,0,none⟩),gyV 3 false 0 0 (some ⟨g,off,none⟩) 1 cap' br bs,.int .i64 s] w _
  by_cases hs:s=-1
  ·subst hs
   have hR2:R=some (d,1):=hR
   clear hR
   subst hR2
   go_enter Tryz.func214,Tryz.ntmps214
   go_wp2_with (first
    | ((with_reducible show wpList _ _ _ (Oper.mk none (Op.store 43 _ _) _ _ _ none::_) _ _);refine wpl_storeGT w.heap.size ⟨⟨3,false,0,0,some ⟨g,off,none⟩,1,cap'⟩,br,bs⟩ f2 HS.out.a4 rfl rfl ?_;intro HEw hA9 hB9;have HE:=jH (HS.out.s4 hA9 hB9);clear hA9 hB9 ;obtain ⟨⟨-,x0,x1,x2,x3,x4⟩,x5,x6⟩:=HE.out.a4.gy;simp only [Nat.zero_add] at x0 x1 x2 x3 x4)
    | ((with_reducible show wpList _ _ _ (Oper.mk none (Op.store 246 _ _) _ _ _ none::_) _ _);refine wpl_storeG (w.heap.size+1) zG ⟨f2,br,bs⟩ HE.out.a6 rfl rfl ?_;intro w9 hA9 hB9;have HF:=jH (HE.out.s6 hA9 hB9);clear hA9 hB9))
   exact bodyPost_ret (results_g2 (g:=⟨f2,br,bs⟩) Tryz.results214 rfl rfl HF.out.a6) rfl ⟨⟨f2,by simp,HVT.out⟩,HF.out.bel⟩
  ·rw [if_neg hs] at hR
   subst hR
   have hsb:(s == -1)=false:=by simpa using hs
   go_enter Tryz.func214,Tryz.ntmps214
   go_wp2_with (first
    | ((with_reducible show wpList _ _ _ (Oper.mk none (Op.store 43 _ _) _ _ _ none::_) _ _);refine wpl_storeGT w.heap.size ⟨⟨3,false,0,0,some ⟨g,off,none⟩,1,cap'⟩,br,bs⟩ f2 HS.out.a4 rfl rfl ?_;intro HEw hA9 hB9;have HE:=jH (HS.out.s4 hA9 hB9);clear hA9 hB9 ;obtain ⟨⟨-,x0,x1,x2,x3,x4⟩,x5,x6⟩:=HE.out.a4.gy;simp only [Nat.zero_add] at x0 x1 x2 x3 x4)
    | ((with_reducible show wpList _ _ _ (Oper.mk none (Op.store 246 _ _) _ _ _ none::_) _ _);refine wpl_storeG (w.heap.size+1) zG ⟨f2,br,bs⟩ HE.out.a6 rfl rfl ?_;intro w9 hA9 hB9;have HF:=jH (HE.out.s6 hA9 hB9);clear hA9 hB9))
   exact bodyPost_ret (results_g2 (g:=⟨f2,br,bs⟩) Tryz.results214 rfl rfl HF.out.a6) rfl ⟨⟨⟨f2,br,bs⟩,rfl⟩,HF.out.bel⟩
 | ref m r d =>
  obtain ⟨g,off,cap',f2,rfl,hc5,ht2,r0,r1⟩:=hT.ref
  rw [stepC_ref] at hR
  have HVT:=jH ht2
  have HC5:=jH (hc5.below hB0)
  obtain ⟨zs,hzs⟩:∃ zs,zs=(bs || !m):=⟨_,rfl⟩
  clear hc5
  clear h hc hT ht2 hB0 hs
  show Calls Tryz.prog 214 #[.pointer (some ⟨b,0,none⟩),gyV 4 m r 0 (some ⟨g,off,none⟩) 1 cap' br bs,.int .i64 s] w _
  clear hzs
  by_cases hs:s=-1
  ·subst hs
   cases m with
   | true =>
    have hR2:R=some (d,2):=hR
    clear hR
    subst hR2
    cases bs with
    | true =>
     go_enter Tryz.func214,Tryz.ntmps214
     go_wp2_with (first
      | ((with_reducible show wpList _ _ _ (Oper.mk none (Op.store 4 _ (Operand.const _)) _ _ _ none::_) _ _);refine wpl_storeGR w.heap.size ⟨⟨4,true,r,0,some ⟨g,off,none⟩,1,cap'⟩,br,true⟩ HS.out.a4 rfl ?_;intro HAw hA9 hB9;have HA:=jH (HS.out.s4 hA9 hB9);clear hA9 hB9;obtain ⟨⟨-,x0,x1,x2,x3,x4⟩,x5,x6⟩:=HA.out.a4.gy;simp only [Nat.zero_add] at x0 x1 x2 x3 x4)
      | ((with_reducible show wpList _ _ _ (Oper.mk none (Op.store 4 _ (Operand.tmp _)) _ _ _ none::_) _ _);refine wpl_storeGS w.heap.size ⟨⟨4,true,r,0,some ⟨g,off,none⟩,1,cap'⟩,true,true⟩ true HA.out.a4 rfl rfl ?_;intro HBw hA9 hB9;have HB:=jH (HA.out.s4 hA9 hB9);clear hA9 hB9 x0 x1 x2 x3 x4 x5 x6;obtain ⟨⟨-,x0,x1,x2,x3,x4⟩,x5,x6⟩:=HB.out.a4.gy;simp only [Nat.zero_add] at x0 x1 x2 x3 x4;obtain ⟨-,p0,p1,p2,p3,p4⟩:=HC5.out.below HB.out.bel)
      | ((with_reducible show wpList _ _ _ (Oper.mk none (Op.store 43 _ _) _ _ _ none::_) _ _);refine wpl_storeGT w.heap.size ⟨⟨4,true,r,0,some ⟨g,off,none⟩,1,cap'⟩,true,true⟩ f2 HB.out.a4 rfl rfl ?_;intro HEw hA9 hB9;have HE:=jH (HB.out.s4 hA9 hB9);clear hA9 hB9 x0 x1 x2 x3 x4 x5 x6;obtain ⟨⟨-,x0,x1,x2,x3,x4⟩,x5,x6⟩:=HE.out.a4.gy;simp only [Nat.zero_add] at x0 x1 x2 x3 x4)
      | ((with_reducible show wpList _ _ _ (Oper.mk none (Op.store 246 _ _) _ _ _ none::_) _ _);refine wpl_storeG (w.heap.size+1) zG ⟨f2,true,true⟩ HE.out.a6 rfl rfl ?_;intro w9 hA9 hB9;have HF:=jH (HE.out.s6 hA9 hB9);clear hA9 hB9))
     exact bodyPost_ret (results_g2 (g:=⟨f2,true,true⟩) Tryz.results214 rfl rfl HF.out.a6) rfl ⟨⟨f2,by simp,HVT.out⟩,HF.out.bel⟩
    | false =>
     go_enter Tryz.func214,Tryz.ntmps214
     go_wp2_with (first
      | ((with_reducible show wpList _ _ _ (Oper.mk none (Op.store 4 _ (Operand.const _)) _ _ _ none::_) _ _);refine wpl_storeGR w.heap.size ⟨⟨4,true,r,0,some ⟨g,off,none⟩,1,cap'⟩,br,false⟩ HS.out.a4 rfl ?_;intro HAw hA9 hB9;have HA:=jH (HS.out.s4 hA9 hB9);clear hA9 hB9;obtain ⟨⟨-,x0,x1,x2,x3,x4⟩,x5,x6⟩:=HA.out.a4.gy;simp only [Nat.zero_add] at x0 x1 x2 x3 x4)
      | ((with_reducible show wpList _ _ _ (Oper.mk none (Op.store 4 _ (Operand.tmp _)) _ _ _ none::_) _ _);refine wpl_storeGS w.heap.size ⟨⟨4,true,r,0,some ⟨g,off,none⟩,1,cap'⟩,true,false⟩ false HA.out.a4 rfl rfl ?_;intro HBw hA9 hB9;have HB:=jH (HA.out.s4 hA9 hB9);clear hA9 hB9 x0 x1 x2 x3 x4 x5 x6;obtain ⟨⟨-,x0,x1,x2,x3,x4⟩,x5,x6⟩:=HB.out.a4.gy;simp only [Nat.zero_add] at x0 x1 x2 x3 x4;obtain ⟨-,p0,p1,p2,p3,p4⟩:=HC5.out.below HB.out.bel)
      | ((with_reducible show wpList _ _ _ (Oper.mk none (Op.store 43 _ _) _ _ _ none::_) _ _);refine wpl_storeGT w.heap.size ⟨⟨4,true,r,0,some ⟨g,off,none⟩,1,cap'⟩,true,false⟩ f2 HB.out.a4 rfl rfl ?_;intro HEw hA9 hB9;have HE:=jH (HB.out.s4 hA9 hB9);clear hA9 hB9 x0 x1 x2 x3 x4 x5 x6;obtain ⟨⟨-,x0,x1,x2,x3,x4⟩,x5,x6⟩:=HE.out.a4.gy;simp only [Nat.zero_add] at x0 x1 x2 x3 x4)
      | ((with_reducible show wpList _ _ _ (Oper.mk none (Op.store 246 _ _) _ _ _ none::_) _ _);refine wpl_storeG (w.heap.size+1) zG ⟨f2,true,false⟩ HE.out.a6 rfl rfl ?_;intro w9 hA9 hB9;have HF:=jH (HE.out.s6 hA9 hB9);clear hA9 hB9))
     exact bodyPost_ret (results_g2 (g:=⟨f2,true,false⟩) Tryz.results214 rfl rfl HF.out.a6) rfl ⟨⟨f2,by simp,HVT.out⟩,HF.out.bel⟩
   | false =>
    have hR2:R=some (d,3):=hR
    clear hR
    subst hR2
    cases bs with
    | true =>
     go_enter Tryz.func214,Tryz.ntmps214
     go_wp2_with (first
      | ((with_reducible show wpList _ _ _ (Oper.mk none (Op.store 4 _ (Operand.const _)) _ _ _ none::_) _ _);refine wpl_storeGR w.heap.size ⟨⟨4,false,r,0,some ⟨g,off,none⟩,1,cap'⟩,br,true⟩ HS.out.a4 rfl ?_;intro HAw hA9 hB9;have HA:=jH (HS.out.s4 hA9 hB9);clear hA9 hB9;obtain ⟨⟨-,x0,x1,x2,x3,x4⟩,x5,x6⟩:=HA.out.a4.gy;simp only [Nat.zero_add] at x0 x1 x2 x3 x4)
      | ((with_reducible show wpList _ _ _ (Oper.mk none (Op.store 4 _ (Operand.tmp _)) _ _ _ none::_) _ _);refine wpl_storeGS w.heap.size ⟨⟨4,false,r,0,some ⟨g,off,none⟩,1,cap'⟩,true,true⟩ true HA.out.a4 rfl rfl ?_;intro HBw hA9 hB9;have HB:=jH (HA.out.s4 hA9 hB9);clear hA9 hB9 x0 x1 x2 x3 x4 x5 x6;obtain ⟨⟨-,x0,x1,x2,x3,x4⟩,x5,x6⟩:=HB.out.a4.gy;simp only [Nat.zero_add] at x0 x1 x2 x3 x4;obtain ⟨-,p0,p1,p2,p3,p4⟩:=HC5.out.below HB.out.bel)
      | ((with_reducible show wpList _ _ _ (Oper.mk none (Op.store 43 _ _) _ _ _ none::_) _ _);refine wpl_storeGT w.heap.size ⟨⟨4,false,r,0,some ⟨g,off,none⟩,1,cap'⟩,true,true⟩ f2 HB.out.a4 rfl rfl ?_;intro HEw hA9 hB9;have HE:=jH (HB.out.s4 hA9 hB9);clear hA9 hB9 x0 x1 x2 x3 x4 x5 x6;obtain ⟨⟨-,x0,x1,x2,x3,x4⟩,x5,x6⟩:=HE.out.a4.gy;simp only [Nat.zero_add] at x0 x1 x2 x3 x4)
      | ((with_reducible show wpList _ _ _ (Oper.mk none (Op.store 246 _ _) _ _ _ none::_) _ _);refine wpl_storeG (w.heap.size+1) zG ⟨f2,true,true⟩ HE.out.a6 rfl rfl ?_;intro w9 hA9 hB9;have HF:=jH (HE.out.s6 hA9 hB9);clear hA9 hB9))
     exact bodyPost_ret (results_g2 (g:=⟨f2,true,true⟩) Tryz.results214 rfl rfl HF.out.a6) rfl ⟨⟨f2,by simp,HVT.out⟩,HF.out.bel⟩
    | false =>
     go_enter Tryz.func214,Tryz.ntmps214
     go_wp2_with (first
      | ((with_reducible show wpList _ _ _ (Oper.mk none (Op.store 4 _ (Operand.const _)) _ _ _ none::_) _ _);refine wpl_storeGR w.heap.size ⟨⟨4,false,r,0,some ⟨g,off,none⟩,1,cap'⟩,br,false⟩ HS.out.a4 rfl ?_;intro HAw hA9 hB9;have HA:=jH (HS.out.s4 hA9 hB9);clear hA9 hB9;obtain ⟨⟨-,x0,x1,x2,x3,x4⟩,x5,x6⟩:=HA.out.a4.gy;simp only [Nat.zero_add] at x0 x1 x2 x3 x4)
      | ((with_reducible show wpList _ _ _ (Oper.mk none (Op.store 4 _ (Operand.tmp _)) _ _ _ none::_) _ _);refine wpl_storeGS w.heap.size ⟨⟨4,false,r,0,some ⟨g,off,none⟩,1,cap'⟩,true,false⟩ true HA.out.a4 rfl rfl ?_;intro HBw hA9 hB9;have HB:=jH (HA.out.s4 hA9 hB9);clear hA9 hB9 x0 x1 x2 x3 x4 x5 x6;obtain ⟨⟨-,x0,x1,x2,x3,x4⟩,x5,x6⟩:=HB.out.a4.gy;simp only [Nat.zero_add] at x0 x1 x2 x3 x4;obtain ⟨-,p0,p1,p2,p3,p4⟩:=HC5.out.below HB.out.bel)
      | ((with_reducible show wpList _ _ _ (Oper.mk none (Op.store 43 _ _) _ _ _ none::_) _ _);refine wpl_storeGT w.heap.size ⟨⟨4,false,r,0,some ⟨g,off,none⟩,1,cap'⟩,true,true⟩ f2 HB.out.a4 rfl rfl ?_;intro HEw hA9 hB9;have HE:=jH (HB.out.s4 hA9 hB9);clear hA9 hB9 x0 x1 x2 x3 x4 x5 x6;obtain ⟨⟨-,x0,x1,x2,x3,x4⟩,x5,x6⟩:=HE.out.a4.gy;simp only [Nat.zero_add] at x0 x1 x2 x3 x4)
      | ((with_reducible show wpList _ _ _ (Oper.mk none (Op.store 246 _ _) _ _ _ none::_) _ _);refine wpl_storeG (w.heap.size+1) zG ⟨f2,true,true⟩ HE.out.a6 rfl rfl ?_;intro w9 hA9 hB9;have HF:=jH (HE.out.s6 hA9 hB9);clear hA9 hB9))
     exact bodyPost_ret (results_g2 (g:=⟨f2,true,true⟩) Tryz.results214 rfl rfl HF.out.a6) rfl ⟨⟨f2,by simp,HVT.out⟩,HF.out.bel⟩
  ·rw [if_neg hs] at hR
   subst hR
   have hsb:(s == -1)=false:=by simpa using hs
   cases m with
   | true =>
    cases bs with
    | true =>
     go_enter Tryz.func214,Tryz.ntmps214
     go_wp2_with (first
      | ((with_reducible show wpList _ _ _ (Oper.mk none (Op.store 4 _ (Operand.const _)) _ _ _ none::_) _ _);refine wpl_storeGR w.heap.size ⟨⟨4,true,r,0,some ⟨g,off,none⟩,1,cap'⟩,br,true⟩ HS.out.a4 rfl ?_;intro HAw hA9 hB9;have HA:=jH (HS.out.s4 hA9 hB9);clear hA9 hB9;obtain ⟨⟨-,x0,x1,x2,x3,x4⟩,x5,x6⟩:=HA.out.a4.gy;simp only [Nat.zero_add] at x0 x1 x2 x3 x4)
      | ((with_reducible show wpList _ _ _ (Oper.mk none (Op.store 4 _ (Operand.tmp _)) _ _ _ none::_) _ _);refine wpl_storeGS w.heap.size ⟨⟨4,true,r,0,some ⟨g,off,none⟩,1,cap'⟩,true,true⟩ true HA.out.a4 rfl rfl ?_;intro HBw hA9 hB9;have HB:=jH (HA.out.s4 hA9 hB9);clear hA9 hB9 x0 x1 x2 x3 x4 x5 x6;obtain ⟨⟨-,x0,x1,x2,x3,x4⟩,x5,x6⟩:=HB.out.a4.gy;simp only [Nat.zero_add] at x0 x1 x2 x3 x4;obtain ⟨-,p0,p1,p2,p3,p4⟩:=HC5.out.below HB.out.bel)
      | ((with_reducible show wpList _ _ _ (Oper.mk none (Op.store 43 _ _) _ _ _ none::_) _ _);refine wpl_storeGT w.heap.size ⟨⟨4,true,r,0,some ⟨g,off,none⟩,1,cap'⟩,true,true⟩ f2 HB.out.a4 rfl rfl ?_;intro HEw hA9 hB9;have HE:=jH (HB.out.s4 hA9 hB9);clear hA9 hB9 x0 x1 x2 x3 x4 x5 x6;obtain ⟨⟨-,x0,x1,x2,x3,x4⟩,x5,x6⟩:=HE.out.a4.gy;simp only [Nat.zero_add] at x0 x1 x2 x3 x4)
      | ((with_reducible show wpList _ _ _ (Oper.mk none (Op.store 246 _ _) _ _ _ none::_) _ _);refine wpl_storeG (w.heap.size+1) zG ⟨f2,true,true⟩ HE.out.a6 rfl rfl ?_;intro w9 hA9 hB9;have HF:=jH (HE.out.s6 hA9 hB9);clear hA9 hB9))
     exact bodyPost_ret (results_g2 (g:=⟨f2,true,true⟩) Tryz.results214 rfl rfl HF.out.a6) rfl ⟨⟨⟨f2,true,true⟩,rfl⟩,HF.out.bel⟩
    | false =>
     go_enter Tryz.func214,Tryz.ntmps214
     go_wp2_with (first
      | ((with_reducible show wpList _ _ _ (Oper.mk none (Op.store 4 _ (Operand.const _)) _ _ _ none::_) _ _);refine wpl_storeGR w.heap.size ⟨⟨4,true,r,0,some ⟨g,off,none⟩,1,cap'⟩,br,false⟩ HS.out.a4 rfl ?_;intro HAw hA9 hB9;have HA:=jH (HS.out.s4 hA9 hB9);clear hA9 hB9;obtain ⟨⟨-,x0,x1,x2,x3,x4⟩,x5,x6⟩:=HA.out.a4.gy;simp only [Nat.zero_add] at x0 x1 x2 x3 x4)
      | ((with_reducible show wpList _ _ _ (Oper.mk none (Op.store 4 _ (Operand.tmp _)) _ _ _ none::_) _ _);refine wpl_storeGS w.heap.size ⟨⟨4,true,r,0,some ⟨g,off,none⟩,1,cap'⟩,true,false⟩ false HA.out.a4 rfl rfl ?_;intro HBw hA9 hB9;have HB:=jH (HA.out.s4 hA9 hB9);clear hA9 hB9 x0 x1 x2 x3 x4 x5 x6;obtain ⟨⟨-,x0,x1,x2,x3,x4⟩,x5,x6⟩:=HB.out.a4.gy;simp only [Nat.zero_add] at x0 x1 x2 x3 x4;obtain ⟨-,p0,p1,p2,p3,p4⟩:=HC5.out.below HB.out.bel)
      | ((with_reducible show wpList _ _ _ (Oper.mk none (Op.store 43 _ _) _ _ _ none::_) _ _);refine wpl_storeGT w.heap.size ⟨⟨4,true,r,0,some ⟨g,off,none⟩,1,cap'⟩,true,false⟩ f2 HB.out.a4 rfl rfl ?_;intro HEw hA9 hB9;have HE:=jH (HB.out.s4 hA9 hB9);clear hA9 hB9 x0 x1 x2 x3 x4 x5 x6;obtain ⟨⟨-,x0,x1,x2,x3,x4⟩,x5,x6⟩:=HE.out.a4.gy;simp only [Nat.zero_add] at x0 x1 x2 x3 x4)
      | ((with_reducible show wpList _ _ _ (Oper.mk none (Op.store 246 _ _) _ _ _ none::_) _ _);refine wpl_storeG (w.heap.size+1) zG ⟨f2,true,false⟩ HE.out.a6 rfl rfl ?_;intro w9 hA9 hB9;have HF:=jH (HE.out.s6 hA9 hB9);clear hA9 hB9))
     exact bodyPost_ret (results_g2 (g:=⟨f2,true,false⟩) Tryz.results214 rfl rfl HF.out.a6) rfl ⟨⟨⟨f2,true,false⟩,rfl⟩,HF.out.bel⟩
   | false =>
    cases bs with
    | true =>
     go_enter Tryz.func214,Tryz.ntmps214
     go_wp2_with (first
      | ((with_reducible show wpList _ _ _ (Oper.mk none (Op.store 4 _ (Operand.const _)) _ _ _ none::_) _ _);refine wpl_storeGR w.heap.size ⟨⟨4,false,r,0,some ⟨g,off,none⟩,1,cap'⟩,br,true⟩ HS.out.a4 rfl ?_;intro HAw hA9 hB9;have HA:=jH (HS.out.s4 hA9 hB9);clear hA9 hB9;obtain ⟨⟨-,x0,x1,x2,x3,x4⟩,x5,x6⟩:=HA.out.a4.gy;simp only [Nat.zero_add] at x0 x1 x2 x3 x4)
      | ((with_reducible show wpList _ _ _ (Oper.mk none (Op.store 4 _ (Operand.tmp _)) _ _ _ none::_) _ _);refine wpl_storeGS w.heap.size ⟨⟨4,false,r,0,some ⟨g,off,none⟩,1,cap'⟩,true,true⟩ true HA.out.a4 rfl rfl ?_;intro HBw hA9 hB9;have HB:=jH (HA.out.s4 hA9 hB9);clear hA9 hB9 x0 x1 x2 x3 x4 x5 x6;obtain ⟨⟨-,x0,x1,x2,x3,x4⟩,x5,x6⟩:=HB.out.a4.gy;simp only [Nat.zero_add] at x0 x1 x2 x3 x4;obtain ⟨-,p0,p1,p2,p3,p4⟩:=HC5.out.below HB.out.bel)
      | ((with_reducible show wpList _ _ _ (Oper.mk none (Op.store 43 _ _) _ _ _ none::_) _ _);refine wpl_storeGT w.heap.size ⟨⟨4,false,r,0,some ⟨g,off,none⟩,1,cap'⟩,true,true⟩ f2 HB.out.a4 rfl rfl ?_;intro HEw hA9 hB9;have HE:=jH (HB.out.s4 hA9 hB9);clear hA9 hB9 x0 x1 x2 x3 x4 x5 x6;obtain ⟨⟨-,x0,x1,x2,x3,x4⟩,x5,x6⟩:=HE.out.a4.gy;simp only [Nat.zero_add] at x0 x1 x2 x3 x4)
      | ((with_reducible show wpList _ _ _ (Oper.mk none (Op.store 246 _ _) _ _ _ none::_) _ _);refine wpl_storeG (w.heap.size+1) zG ⟨f2,true,true⟩ HE.out.a6 rfl rfl ?_;intro w9 hA9 hB9;have HF:=jH (HE.out.s6 hA9 hB9);clear hA9 hB9))
     exact bodyPost_ret (results_g2 (g:=⟨f2,true,true⟩) Tryz.results214 rfl rfl HF.out.a6) rfl ⟨⟨⟨f2,true,true⟩,rfl⟩,HF.out.bel⟩
    | false =>
     go_enter Tryz.func214,Tryz.ntmps214
     go_wp2_with (first
      | ((with_reducible show wpList _ _ _ (Oper.mk none (Op.store 4 _ (Operand.const _)) _ _ _ none::_) _ _);refine wpl_storeGR w.heap.size ⟨⟨4,false,r,0,some ⟨g,off,none⟩,1,cap'⟩,br,false⟩ HS.out.a4 rfl ?_;intro HAw hA9 hB9;have HA:=jH (HS.out.s4 hA9 hB9);clear hA9 hB9;obtain ⟨⟨-,x0,x1,x2,x3,x4⟩,x5,x6⟩:=HA.out.a4.gy;simp only [Nat.zero_add] at x0 x1 x2 x3 x4)
      | ((with_reducible show wpList _ _ _ (Oper.mk none (Op.store 4 _ (Operand.tmp _)) _ _ _ none::_) _ _);refine wpl_storeGS w.heap.size ⟨⟨4,false,r,0,some ⟨g,off,none⟩,1,cap'⟩,true,false⟩ true HA.out.a4 rfl rfl ?_;intro HBw hA9 hB9;have HB:=jH (HA.out.s4 hA9 hB9);clear hA9 hB9 x0 x1 x2 x3 x4 x5 x6;obtain ⟨⟨-,x0,x1,x2,x3,x4⟩,x5,x6⟩:=HB.out.a4.gy;simp only [Nat.zero_add] at x0 x1 x2 x3 x4;obtain ⟨-,p0,p1,p2,p3,p4⟩:=HC5.out.below HB.out.bel)
      | ((with_reducible show wpList _ _ _ (Oper.mk none (Op.store 43 _ _) _ _ _ none::_) _ _);refine wpl_storeGT w.heap.size ⟨⟨4,false,r,0,some ⟨g,off,none⟩,1,cap'⟩,true,true⟩ f2 HB.out.a4 rfl rfl ?_;intro HEw hA9 hB9;have HE:=jH (HB.out.s4 hA9 hB9);clear hA9 hB9 x0 x1 x2 x3 x4 x5 x6;obtain ⟨⟨-,x0,x1,x2,x3,x4⟩,x5,x6⟩:=HE.out.a4.gy;simp only [Nat.zero_add] at x0 x1 x2 x3 x4)
      | ((with_reducible show wpList _ _ _ (Oper.mk none (Op.store 246 _ _) _ _ _ none::_) _ _);refine wpl_storeG (w.heap.size+1) zG ⟨f2,true,true⟩ HE.out.a6 rfl rfl ?_;intro w9 hA9 hB9;have HF:=jH (HE.out.s6 hA9 hB9);clear hA9 hB9))
     exact bodyPost_ret (results_g2 (g:=⟨f2,true,true⟩) Tryz.results214 rfl rfl HF.out.a6) rfl ⟨⟨⟨f2,true,true⟩,rfl⟩,HF.out.bel⟩
end Go.Proofs.YtmjenlogbkbgnaaGreatDoor
