import Derived.Test.YtdlggpcakaofoaaGreatB05
namespace Go.Proofs.YtdlggpcakaofoaaGreat
open Go.RowKit Go.Shelf
set_option linter.unusedVariables false
set_option linter.unusedSimpArgs false
set_option maxRecDepth 100000
set_option maxHeartbeats 8000000
def stepC (fc:Nat→List Ch):Ch→Int→Option (Ch × Int)
 | .leaf k sn,s=>if k=5∧0≤s then ((fc sn.toNat)[s.toNat]?).map (fun d=>(d,0)) else none
 | .box c,s=>if s=-1 then some (c,1) else none
 | .ref m _ c,s=>if s=-1 then some (c,if m then 2 else 3) else none
theorem stepC_leaf (fc:Nat→List Ch) (k:Nat) (sn s:Int):stepC fc (.leaf k sn) s=if k=5∧0≤s then ((fc sn.toNat)[s.toNat]?).map (fun d=>(d,0)) else none:=rfl
theorem stepC_box (fc:Nat→List Ch) (c:Ch) (s:Int):stepC fc (.box c) s=if s=-1 then some (c,1) else none:=rfl
theorem stepC_ref (fc:Nat→List Ch) (m:Bool) (r:Int) (c:Ch) (s:Int):stepC fc (.ref m r c) s=if s=-1 then some (c,if m then 2 else 3) else none:=rfl
def wayC (fc:Nat→List Ch):Ch→List Int→Option (Ch × List Int)
 | c,[]=>some (c,[])
 | c,s::p=>(stepC fc c s).bind fun x=>(wayC fc x.1 p).map fun y=>(y.1,x.2::y.2)
structure SF (w:World) (a:Option Addr) (n cap:Nat) (fc:Nat→List Ch):Prop where
 st:∀ j,j<n→∃ g off fa fcap,a=some ⟨g,off,none⟩∧g<w.heap.size∧w.cell? ⟨g,off+j*2+1,none⟩=some (.slice fa (fc j).length fcap)∧FdAt w fa ((fc j).map Ch.ty)
 ok:∀ j,j<n→∀ c∈fc j,c.ok n
 le:n≤32
 len:∀ j,j<n→(fc j).length≤8
theorem SF.bel {w w':World} {a:Option Addr} {n cap:Nat} {fc:Nat→List Ch} (h:SF w a n cap fc) (hb:Below w.heap.size w w'):SF w' a n cap fc where
 st:=fun j hj=>by
  obtain ⟨g,off,fa,fcap,e,hg,h1,h2⟩:=h.st j hj
  exact ⟨g,off,fa,fcap,e,Nat.lt_of_lt_of_le hg hb.size,(hb.cell (p:=⟨g,off+j*2+1,none⟩) hg).trans h1,h2.bel hb⟩
 ok:=h.ok
 le:=h.le
 len:=h.len
theorem stepC_ok {w:World} {a:Option Addr} {n cap:Nat} {fc:Nat→List Ch} (h:SF w a n cap fc) {c d:Ch} {s g:Int} (hc:c.ok n) (hs:stepC fc c s=some (d,g)):d.ok n∧(0≤g∧g≤3):=by
 cases c with
 | leaf k sn =>
  rw [stepC_leaf] at hs
  split at hs
  ·rename_i hk
   rw [Option.map_eq_some_iff] at hs
   obtain ⟨x,hx,e⟩:=hs
   cases e
   have hk5:(k=1∨k=2)∧sn=0∨k=5∧0≤sn∧sn<n:=hc
   exact ⟨h.ok sn.toNat (by omega) d (List.mem_of_getElem? hx),by omega⟩
  ·cases hs
 | box c =>
  rw [stepC_box] at hs
  split at hs
  ·cases hs;exact ⟨hc,by omega⟩
  ·cases hs
 | ref m r c =>
  rw [stepC_ref] at hs
  split at hs
  ·cases hs
   refine ⟨hc.2,?_⟩
   cases m <;> simp
  ·cases hs
theorem wpl_storeT {w:World} {ops:Array Oper} {rest:List Oper} {a:Act} {Q:Exit→Act→World→Prop} {x y:Nat} {ty:TypeId} {pos:String} {after:Array Edge} (b:Nat) (f0 f:Fv) (hA:At w b f0.o)
  (hx:a.eval (.tmp x)=.pointer (some ⟨b,0,none⟩)) (hy:a.eval (.tmp y)=f.v) (h:∀ w',w'=S5 w b f→wpList Tryz.prog ops Q rest a w'):wpList Tryz.prog ops Q (⟨none,.store 46 (.tmp x) (.tmp y),ty,pos,after,none⟩::rest) a w:=by
 refine wpList_plain rfl fun K hK=>?_
 have g0:=hA.tyF 0
 have g1:=hA.tyF 1
 have g2:=hA.tyF 2
 have g3:=hA.tyF 3
 have g4:=hA.tyF 4
 obtain ⟨hl,q0,q1,q2,q3,q4⟩:=hA.ty
 simp only [Nat.zero_add] at q0 q1 q2 q3 q4
 have hx2:a.tmps[x]?.getD undef=.pointer (some ⟨b,0,none⟩):=by rw [← hx];simp [Act.eval]
 have hy2:a.tmps[y]?.getD undef=f.v:=by rw [← hy];simp [Act.eval]
 unfold Oper.wp
 simp [execOp,hx2,hy2,go_sem,q0,q1,q2,q3,q4,g0,g1,g2,g3,g4]
 exact hK _ _ (h _ rfl)
theorem Tryz.results151:Tryz.f151.results=#[.cell 6 46,.tmp 7,.tmp 8]:=rfl
def StfPost (R:Option (Ch × Int)) (w:World) (e:Ending):Prop:=match R with
 | some x=>∃ f':Fv,e=.returned (.tuple #[f'.v,.int .i64 x.2,.bool true])∧TyAt w f' x.1.ty
 | none=>e=.returned (.tuple #[zT.v,.int .i64 0,.bool false])
theorem stepFrom_any {w0 w:World} (hB0:Below w0.heap.size w0 w) {a:Option Addr} {n cap:Nat} {fc:Nat→List Ch} (h:SF w0 a n cap fc) (c:Ch) (f:Fv) (hc:c.ok n) (hT:TyAt w0 f c.ty) (s:Int) (s0:-9223372036854775808≤s) (s1:s≤9223372036854775807) (R:Option (Ch × Int)) (hR:R=stepC fc c s) :
  Calls Tryz.prog 151 #[.slice a n cap,f.v,.int .i64 s] w fun e w'=>StfPost R w0 e∧Below w.heap.size w w':=by
 have A0:At ((w.alloc f.o).alloc zT.o) w.heap.size f.o:=(At.new _ _).alloc _
 have A4:At ((w.alloc f.o).alloc zT.o) (w.heap.size+1) zT.o:=at_snd _ _ _
 have HA4:=jH A4
 have hB:Below w.heap.size w ((w.alloc f.o).alloc zT.o):=belB w f zT
 have HB:=jH hB
 have g0:=A4.tyF 0
 have g1:=A4.tyF 1
 have g2:=A4.tyF 2
 have g3:=A4.tyF 3
 have g4:=A4.tyF 4
 have FIN:Hid (∀ f':Fv,C5 (S5 ((w.alloc f.o).alloc zT.o) (w.heap.size+1) f') (w.heap.size+1) 0 f'∧Below w.heap.size w (S5 ((w.alloc f.o).alloc zT.o) (w.heap.size+1) f')):=fun f'=>⟨(HA4.out.set5 f').ty,below_S5 HB.out (by omega) f'⟩
 cases c with
 | leaf k sn =>
  obtain ⟨fa0,fcap0,rfl,-⟩:=hT.leaf
  have hk5:(k=1∨k=2)∧sn=0∨k=5∧0≤sn∧sn<n:=hc
  by_cases k5:k=5
  ·subst k5
   obtain ⟨j,rfl⟩:∃ j:Nat,sn=(j:Int):=⟨sn.toNat,by omega⟩
   have hj:j<n:=by omega
   obtain ⟨g,off,fa,fcap,ea,hg,hcell,hF⟩:=h.st j hj
   replace hcell:=(hB0.cell (p:=⟨g,off+j*2+1,none⟩) hg).trans hcell
   replace hg:=Nat.lt_of_lt_of_le hg hB0.size
   have hlen:=h.len j hj
   subst ea
   have HF:=jH hF
   obtain ⟨m,hm⟩:∃ m,m=(fc j).length:=⟨_,rfl⟩
   rw [← hm] at hcell hlen
   have HM:=jH hm
   have e0:stepC fc (.leaf 5 (j:Int)) s=if 0≤s then ((fc j)[s.toNat]?).map (fun d=>(d,0)) else none:=by
    rw [stepC_leaf]
    simp
   rw [e0] at hR
   have j0:(0:Int)≤(j:Int):=by omega
   have j1:(j:Int)<(n:Int):=by omega
   have j2:(j:Int)≤32:=by have:=h.le;omega
   have HBW:=jH hB
   clear hB A0 A4 hc hT hF hm hk5 e0
   show Calls Tryz.prog 151 #[.slice (some ⟨g,off,none⟩) n cap,tyV 5 false 0 (j:Int) fa0 0 fcap0,.int .i64 s] w _
   by_cases hs0:s<0
   ·rw [if_neg (by omega)] at hR
    subst hR
    clear h HF
    go_enter Tryz.func151,Tryz.ntmps151
    go_wp2_with fail
    exact bodyPost_ret (results_c3 (g:=zT) Tryz.results151 rfl rfl rfl HA4.out.ty) rfl ⟨rfl,HB.out⟩
   ·rw [if_pos (by omega)] at hR
    obtain ⟨i,rfl⟩:∃ i:Nat,s=(i:Int):=⟨s.toNat,by omega⟩
    rw [Int.toNat_natCast] at hR
    by_cases hi:i<m
    ·obtain ⟨d,hd⟩:∃ d,(fc j)[i]?=some d:=⟨_,List.getElem?_eq_getElem (by have:=HM.out;omega)⟩
     rw [hd] at hR
     have hR2:R=some (d,0):=hR
     subst hR2
     have hd2:((fc j).map Ch.ty)[i]?=some d.ty:=by rw [List.getElem?_map,hd];rfl
     obtain ⟨g',off',ea',hk⟩:=HF.out.2 (fun e=>by rw [e] at hd2;simp at hd2)
     obtain ⟨V,nm,-,hV5,hVt⟩:=hk i d.ty hd2
     subst ea'
     have HVT:=jH hVt
     obtain ⟨hg',p0,p1,p2,p3,p4⟩:=hV5.below hB0
     have i0:(0:Int)≤(i:Int):=by omega
     have i1:(i:Int)<(m:Int):=by omega
     have i2:¬ (m:Int)≤(i:Int):=by omega
     have i3:¬ (i:Int)<0:=by omega
     clear h HF hd hd2 hR hk hVt hs0 hV5 hB0
     go_enter Tryz.func151,Tryz.ntmps151
     go_wp2_with (((with_reducible show wpList _ _ _ (Oper.mk none (Op.store 46 _ _) _ _ _ none::_) _ _);refine wpl_storeT (w.heap.size+1) zT V HA4.out rfl rfl ?_;intro w9 hw9;have F9:Hid (C5 w9 (w.heap.size+1) 0 V∧Below w.heap.size w w9):=(by rw [hw9];exact FIN.out V);clear hw9))
     exact bodyPost_ret (results_c3 (g:=V) Tryz.results151 rfl rfl rfl F9.out.1) rfl ⟨⟨V,rfl,HVT.out⟩,F9.out.2⟩
    ·have hd:(fc j)[i]?=none:=List.getElem?_eq_none (by have:=HM.out;omega)
     rw [hd] at hR
     have hR2:R=none:=hR
     subst hR2
     have i2:(m:Int)≤(i:Int):=by omega
     have i3:¬ (i:Int)<0:=by omega
     clear h HF hd hR hs0
     go_enter Tryz.func151,Tryz.ntmps151
     go_wp2_with fail
     exact bodyPost_ret (results_c3 (g:=zT) Tryz.results151 rfl rfl rfl HA4.out.ty) rfl ⟨rfl,HB.out⟩
  ·rw [stepC_leaf,if_neg (fun e=>k5 e.1)] at hR
   subst hR
   have k1:¬ (k:Int)=5:=by omega
   have k3:¬ (k:Int)=3:=by omega
   have k4:¬ (k:Int)=4:=by omega
   have k4b:((k:Int) == 4)=false:=by simpa using k4
   clear h hc hT hB A0 A4 hk5
   show Calls Tryz.prog 151 #[.slice a n cap,tyV k false 0 sn fa0 0 fcap0,.int .i64 s] w _
   by_cases hs:s=-1
   ·subst hs
    go_enter Tryz.func151,Tryz.ntmps151
    go_wp2_with fail
    exact bodyPost_ret (results_c3 (g:=zT) Tryz.results151 rfl rfl rfl HA4.out.ty) rfl ⟨rfl,HB.out⟩
   ·go_enter Tryz.func151,Tryz.ntmps151
    go_wp2_with fail
    exact bodyPost_ret (results_c3 (g:=zT) Tryz.results151 rfl rfl rfl HA4.out.ty) rfl ⟨rfl,HB.out⟩
 | box d =>
  obtain ⟨g,off,cap',f2,rfl,hc5,ht2⟩:=hT.box
  rw [stepC_box] at hR
  have HVT:=jH ht2
  obtain ⟨hg,p0,p1,p2,p3,p4⟩:=hc5.below hB0
  clear hc5
  clear h hc hT hB A0 A4 ht2 s0 s1 hB0
  show Calls Tryz.prog 151 #[.slice a n cap,tyV 3 false 0 0 (some ⟨g,off,none⟩) 1 cap',.int .i64 s] w _
  by_cases hs:s=-1
  ·subst hs
   have hR2:R=some (d,1):=hR
   clear hR
   subst hR2
   go_enter Tryz.func151,Tryz.ntmps151
   go_wp2_with (((with_reducible show wpList _ _ _ (Oper.mk none (Op.store 46 _ _) _ _ _ none::_) _ _);refine wpl_storeT (w.heap.size+1) zT f2 HA4.out rfl rfl ?_;intro w9 hw9;have F9:Hid (C5 w9 (w.heap.size+1) 0 f2∧Below w.heap.size w w9):=(by rw [hw9];exact FIN.out f2);clear hw9))
   exact bodyPost_ret (results_c3 (g:=f2) Tryz.results151 rfl rfl rfl F9.out.1) rfl ⟨⟨f2,rfl,HVT.out⟩,F9.out.2⟩
  ·rw [if_neg hs] at hR
   subst hR
   go_enter Tryz.func151,Tryz.ntmps151
   go_wp2_with fail
   exact bodyPost_ret (results_c3 (g:=zT) Tryz.results151 rfl rfl rfl HA4.out.ty) rfl ⟨rfl,HB.out⟩
 | ref m r d =>
  obtain ⟨g,off,cap',f2,rfl,hc5,ht2,r0,r1⟩:=hT.ref
  rw [stepC_ref] at hR
  have HVT:=jH ht2
  obtain ⟨hg,p0,p1,p2,p3,p4⟩:=hc5.below hB0
  clear hc5
  clear h hc hT hB A0 A4 ht2 s0 s1 hB0
  show Calls Tryz.prog 151 #[.slice a n cap,tyV 4 m r 0 (some ⟨g,off,none⟩) 1 cap',.int .i64 s] w _
  by_cases hs:s=-1
  ·subst hs
   cases m with
   | true =>
    have hR2:R=some (d,2):=hR
    clear hR
    subst hR2
    go_enter Tryz.func151,Tryz.ntmps151
    go_wp2_with (((with_reducible show wpList _ _ _ (Oper.mk none (Op.store 46 _ _) _ _ _ none::_) _ _);refine wpl_storeT (w.heap.size+1) zT f2 HA4.out rfl rfl ?_;intro w9 hw9;have F9:Hid (C5 w9 (w.heap.size+1) 0 f2∧Below w.heap.size w w9):=(by rw [hw9];exact FIN.out f2);clear hw9))
    exact bodyPost_ret (results_c3 (g:=f2) Tryz.results151 rfl rfl rfl F9.out.1) rfl ⟨⟨f2,rfl,HVT.out⟩,F9.out.2⟩
   | false =>
    have hR2:R=some (d,3):=hR
    clear hR
    subst hR2
    go_enter Tryz.func151,Tryz.ntmps151
    go_wp2_with (((with_reducible show wpList _ _ _ (Oper.mk none (Op.store 46 _ _) _ _ _ none::_) _ _);refine wpl_storeT (w.heap.size+1) zT f2 HA4.out rfl rfl ?_;intro w9 hw9;have F9:Hid (C5 w9 (w.heap.size+1) 0 f2∧Below w.heap.size w w9):=(by rw [hw9];exact FIN.out f2);clear hw9))
    exact bodyPost_ret (results_c3 (g:=f2) Tryz.results151 rfl rfl rfl F9.out.1) rfl ⟨⟨f2,rfl,HVT.out⟩,F9.out.2⟩
  ·rw [if_neg hs] at hR
   subst hR
   go_enter Tryz.func151,Tryz.ntmps151
   go_wp2_with fail
   exact bodyPost_ret (results_c3 (g:=zT) Tryz.results151 rfl rfl rfl HA4.out.ty) rfl ⟨rfl,HB.out⟩
structure Wy where
 f:Fv
 ga:Option Addr
 gn:Nat
 gcap:Nat
abbrev wyV (f:Fv) (ga:Option Addr) (gn gcap:Nat):Value:=.agg #[.int .u8 (f.k:Int),.bool f.m,.int .i64 f.r,.int .i64 f.s,.slice f.a f.n f.cap,.slice ga gn gcap]
abbrev wyO (f:Fv) (ga:Option Addr) (gn gcap:Nat):Obj:=.cells #[.int .u8 (f.k:Int),.bool f.m,.int .i64 f.r,.int .i64 f.s,.slice f.a f.n f.cap,.slice ga gn gcap] 146 (0,0)
abbrev Wy.v (y:Wy):Value:=wyV y.f y.ga y.gn y.gcap
abbrev Wy.o (y:Wy):Obj:=wyO y.f y.ga y.gn y.gcap
abbrev zW:Wy:=⟨zT,none,0,0⟩
theorem At.wy {w:World} {b:Nat} {y:Wy} (h:At w b y.o):C5 w b 0 y.f∧w.cell? ⟨b,5,none⟩=some (.slice y.ga y.gn y.gcap):=by
 unfold At at h
 exact ⟨⟨lt_of_block h,by simp [World.cell?,h],by simp [World.cell?,h],by simp [World.cell?,h],by simp [World.cell?,h],by simp [World.cell?,h]⟩,by simp [World.cell?,h]⟩
theorem At.wyF {w:World} {b:Nat} {y:Wy} (h:At w b y.o) (o:Nat):w.frozen? ⟨b,o,none⟩=false:=frozen_of_row w b o _ 146 h
theorem atWy5 {w:World} {b:Nat} {y:Wy} (h:At w b y.o) (g:Fv):At (S5 w b g) b (Wy.o ⟨g,y.ga,y.gn,y.gcap⟩):=by
 have h1:=heap_setCell_same w b 0 _ 146 (.int .u8 (g.k:Int)) h
 have h2:=heap_setCell_same _ b 1 _ 146 (.bool g.m) h1
 have h3:=heap_setCell_same _ b 2 _ 146 (.int .i64 g.r) h2
 have h4:=heap_setCell_same _ b 3 _ 146 (.int .i64 g.s) h3
 have h5:=heap_setCell_same _ b 4 _ 146 (.slice g.a g.n g.cap) h4
 exact h5
theorem atWy1 {w:World} {b:Nat} {y:Wy} (h:At w b y.o) (ga:Option Addr) (gn gcap:Nat):At (w.setCell ⟨b,5,none⟩ (.slice ga gn gcap)) b (Wy.o ⟨y.f,ga,gn,gcap⟩):=heap_setCell_same w b 5 _ 146 (.slice ga gn gcap) h
abbrev S6 (w:World) (b:Nat) (y:Wy):World:=(S5 w b y.f).setCell ⟨b,5,none⟩ (.slice y.ga y.gn y.gcap)
theorem atWy6 {w:World} {b:Nat} {y:Wy} (h:At w b y.o) (z:Wy):At (S6 w b z) b z.o:=atWy1 (atWy5 h z.f) z.ga z.gn z.gcap
theorem but_s6 (w:World) (b:Nat) (z:Wy):But b w (S6 w b z):=(but_s5 w b z.f).set 5 _
theorem below_S6 {w W:World} (h:Below w.heap.size w W) {b:Nat} (hb:w.heap.size≤b) (z:Wy):Below w.heap.size w (S6 W b z):=h.grown (but_s6 W b z) h.size (fun k hk=>by cases hk;exact hb)
theorem wpl_storeW {w:World} {ops:Array Oper} {rest:List Oper} {a:Act} {Q:Exit→Act→World→Prop} {x y:Nat} {ty:TypeId} {pos:String} {after:Array Edge} (b:Nat) (f0 f:Wy) (hA:At w b f0.o)
  (hx:a.eval (.tmp x)=.pointer (some ⟨b,0,none⟩)) (hy:a.eval (.tmp y)=f.v) (h:∀ w',w'=S6 w b f→wpList Tryz.prog ops Q rest a w'):wpList Tryz.prog ops Q (⟨none,.store 146 (.tmp x) (.tmp y),ty,pos,after,none⟩::rest) a w:=by
 refine wpList_plain rfl fun K hK=>?_
 have g0:=hA.wyF 0
 have g1:=hA.wyF 1
 have g2:=hA.wyF 2
 have g3:=hA.wyF 3
 have g4:=hA.wyF 4
 have g5:=hA.wyF 5
 obtain ⟨⟨hl,q0,q1,q2,q3,q4⟩,q5⟩:=hA.wy
 simp only [Nat.zero_add] at q0 q1 q2 q3 q4 q5
 have hx2:a.tmps[x]?.getD undef=.pointer (some ⟨b,0,none⟩):=by rw [← hx];simp [Act.eval]
 have hy2:a.tmps[y]?.getD undef=f.v:=by rw [← hy];simp [Act.eval]
 unfold Oper.wp
 simp [execOp,hx2,hy2,go_sem,q0,q1,q2,q3,q4,q5,g0,g1,g2,g3,g4,g5]
 exact hK _ _ (h _ rfl)
theorem wp_storeT5 {w:World} {o:Oper} {a:Act} {K:Act→World→Prop} {Q:Exit→Act→World→Prop} {x y:Nat} (b:Nat) (y0:Wy) (f:Fv) (ho:o.op=.store 46 (.tmp x) (.tmp y)) (hd:o.dst=none) (hA:At w b y0.o)
  (hx:a.eval (.tmp x)=.pointer (some ⟨b,0,none⟩)) (hy:a.eval (.tmp y)=f.v) (h:K a (S5 w b f)):o.wp Tryz.prog a w K Q:=by
 have g0:=hA.wyF 0
 have g1:=hA.wyF 1
 have g2:=hA.wyF 2
 have g3:=hA.wyF 3
 have g4:=hA.wyF 4
 obtain ⟨⟨hl,q0,q1,q2,q3,q4⟩,q5⟩:=hA.wy
 simp only [Nat.zero_add] at q0 q1 q2 q3 q4
 have hx2:a.tmps[x]?.getD undef=.pointer (some ⟨b,0,none⟩):=by rw [← hx];simp [Act.eval]
 have hy2:a.tmps[y]?.getD undef=f.v:=by rw [← hy];simp [Act.eval]
 unfold Oper.wp
 simp [execOp,ho,hd,hx2,hy2,go_sem,q0,q1,q2,q3,q4,g0,g1,g2,g3,g4]
 exact h
theorem results_w2 {fn:Func} {i j:Nat} (h:fn.results=#[.cell i 146,.tmp j]) {tmps:Array Value} {W:World} {b4:Nat} {g:Wy} {v:Value} (ht:tmps.getD i undef=.pointer (some ⟨b4,0,none⟩)) (hv:tmps.getD j undef=v) (hC:At W b4 g.o):(results fn tmps).run Tryz.prog W=.ok (.tuple #[g.v,v]) W:=by
 obtain ⟨⟨-,e0,e1,e2,e3,e4⟩,e5⟩:=hC.wy
 simp only [Nat.zero_add] at e0 e1 e2 e3 e4
 have ht2:tmps[i]?.getD undef=.pointer (some ⟨b4,0,none⟩):=by rw [← ht];simp
 have hv2:tmps[j]?.getD undef=v:=by rw [← hv];simp
 simp only [results,h]
 simp [go_sem,ht2,hv2,e0,e1,e2,e3,e4,e5]
theorem Tryz.results114:Tryz.f114.results=#[.cell 6 146,.tmp 7]:=rfl
structure WyI (w0 w V:World) (b8:Nat) (y:Wy) (c:Ch) (gs:List Int):Prop where
 var:At V b8 y.o
 res:At V (w.heap.size+1) zW.o
 ty:TyAt w0 y.f c.ty
 gn:y.gn=gs.length
 row:V.ownsRow w.heap.size 3 1 (.slice y.ga y.gn y.gcap) gs.length (iCells gs)
 bel:Below w.heap.size w V
 lo:w.heap.size+1<b8
theorem row3_ne {V:World} {B n cap b1:Nat} {a:Option Addr} {xs:List Value} {cs:Array Value} {e:Nat} (he:e≠3) (h:V.ownsRow B 3 1 (.slice a n cap) n xs) (hA:At V b1 (.cells cs e (0,0))):some b1≠(Value.slice a n cap).ownBlock:=by
 rcases h.2 with ⟨e0,h0⟩|⟨g,cap',cur,e0,h1,hg,h2,h3,h4,ht⟩
 ·injection e0 with e1 e2 e3
  subst e1
  simp [Value.ownBlock]
 ·injection e0 with e1 e2 e3
  subst e1
  intro e4
  have e2:b1=g:=by simpa [Value.ownBlock] using e4
  subst e2
  unfold At at hA
  rw [hg] at hA
  simp at hA
  exact he hA.2.symm
def wayP (fc:Nat→List Ch) (cl:List Ch) (l:Int) (p:List Int):Option (Ch × List Int):=if 0≤l∧p.length≤8 then (cl[l.toNat]?).bind fun c=>wayC fc c p else none
structure WayIs (w0 w V:World) (y:Wy) (c:Ch) (gs:List Int):Prop where
 ty:TyAt w0 y.f c.ty
 gn:y.gn=gs.length
 row:V.ownsRow w.heap.size 3 1 (.slice y.ga y.gn y.gcap) gs.length (iCells gs)
def WayPost (R:Option (Ch × List Int)) (w0 w V:World) (e:Ending):Prop:=match R with
 | some x=>∃ y:Wy,e=.returned (.tuple #[y.v,.bool true])∧WayIs w0 w V y x.1 x.2
 | none=>e=.returned (.tuple #[zW.v,.bool false])
theorem wayC_step {fc:Nat→List Ch} {c:Ch} {p:List Int} {i:Nat} {s:Int} (hs:p[i]?=some s) (gs:List Int):(wayC fc c (p.drop i)).map (fun z=>(z.1,gs++z.2))=(stepC fc c s).bind fun x=>(wayC fc x.1 (p.drop (i+1))).map (fun z=>(z.1,(gs++[x.2])++z.2)):=by
 obtain ⟨h1,rfl⟩:=List.getElem?_eq_some_iff.1 hs
 rw [List.drop_eq_getElem_cons h1,wayC]
 cases stepC fc c p[i] with
 | none=>rfl
 | some x =>
  show Option.map _ (Option.map _ _)=Option.map _ _
  rw [Option.map_map]
  congr 1
  funext z
  simp
theorem WyI.next {w0 w V V2:World} {b8:Nat} {y:Wy} {c d:Ch} {gs:List Int} {s:Int} {f':Fv} {ga':Option Addr} {gcap':Nat} (h:WyI w0 w V b8 y c gs) (ht:TyAt w0 f' d.ty) {Va:World} (hva:Below V.heap.size V Va) (ho:V2.ownsRow w.heap.size 3 1 (.slice ga' (gs.length+1) gcap') (gs.length+1) (iCells gs++[.int .i64 s])) (hg:Va.grownBy V2 (Value.slice y.ga y.gn y.gcap).ownBlock) :
  At V2 b8 y.o∧WyI w0 w ((S5 V2 b8 f').setCell ⟨b8,5,none⟩ (.slice ga' (gs.length+1) gcap')) b8 ⟨f',ga',gs.length+1,gcap'⟩ d (gs++[s]):=by
 have hrow:V.ownsRow w.heap.size 3 1 (.slice y.ga y.gn y.gcap) y.gn (iCells gs):=by have:=h.row;rw [← h.gn] at this;exact this
 have hv2:At V2 b8 y.o:=(h.var.below hva).grown hg (row3_ne (by decide) hrow h.var)
 have hr2:At V2 (w.heap.size+1) zW.o:=(h.res.below hva).grown hg (row3_ne (by decide) hrow h.res)
 have hb2:Below w.heap.size w V2:=by
  refine (jB h.bel hva).grown hg (Nat.le_trans h.bel.size hva.size) (fun g e=>?_)
  rcases hrow.2 with ⟨e1,h0⟩|⟨g',cap',cur,e1,h1,hg',-⟩
  ·injection e1 with e2 e3 e4
   rw [e2] at e
   simp [Value.ownBlock] at e
  ·injection e1 with e2 e3 e4
   rw [e2] at e
   simp [Value.ownBlock] at e
   omega
 refine ⟨hv2,atWy1 (atWy5 hv2 f') ga' (gs.length+1) gcap',?_,ht,by simp,?_,?_,h.lo⟩
 ·exact (hr2.S5 (by have:=h.lo;omega) f').set (by have:=h.lo;simp;omega) _
 ·rw [show (gs++[s]).length=gs.length+1 by simp,show iCells (gs++[s])=iCells gs++[.int .i64 s] by simp [iCells]]
  have hne:=row3_ne (e:=146) (by decide) ho hv2
  exact own_grow ho ((but_s5 V2 b8 f').set 5 _) (fun g hgg e2=>hne (by rw [hgg,e2]))
 ·exact hb2.grown ((but_s5 V2 b8 f').set 5 _) hb2.size (fun k hk=>by cases hk;have:=h.lo;omega)
end Go.Proofs.YtdlggpcakaofoaaGreat
