import Derived.Test.YtmjenlogbkbgnaaGreatDoorB05
namespace Go.Proofs.YtmjenlogbkbgnaaGreatDoor
open Go.RowKit Go.Shelf
set_option linter.unusedVariables false
set_option linter.unusedSimpArgs false
set_option maxRecDepth 100000
set_option maxHeartbeats 8000000
structure Wy where
 f:Fv
 ga:Option Addr
 gn:Nat
 gcap:Nat
abbrev wyV (f:Fv) (ga:Option Addr) (gn gcap:Nat):Value:=.agg #[.int .u8 (f.k:Int),.bool f.m,.int .i64 f.r,.int .i64 f.s,.slice f.a f.n f.cap,.slice ga gn gcap]
abbrev wyO (f:Fv) (ga:Option Addr) (gn gcap:Nat):Obj:=.cells #[.int .u8 (f.k:Int),.bool f.m,.int .i64 f.r,.int .i64 f.s,.slice f.a f.n f.cap,.slice ga gn gcap] 289 (0,0)
abbrev Wy.v (y:Wy):Value:=wyV y.f y.ga y.gn y.gcap
abbrev Wy.o (y:Wy):Obj:=wyO y.f y.ga y.gn y.gcap
abbrev zW:Wy:=⟨zT,none,0,0⟩
theorem At.wy {w:World} {b:Nat} {y:Wy} (h:At w b y.o):C5 w b 0 y.f∧w.cell? ⟨b,5,none⟩=some (.slice y.ga y.gn y.gcap):=by
 unfold At at h
 exact ⟨⟨lt_of_block h,by simp [World.cell?,h],by simp [World.cell?,h],by simp [World.cell?,h],by simp [World.cell?,h],by simp [World.cell?,h]⟩,by simp [World.cell?,h]⟩
theorem At.wyF {w:World} {b:Nat} {y:Wy} (h:At w b y.o) (o:Nat):w.frozen? ⟨b,o,none⟩=false:=frozen_of_row w b o _ 289 h
theorem atWy5 {w:World} {b:Nat} {y:Wy} (h:At w b y.o) (g:Fv):At (S5 w b g) b (Wy.o ⟨g,y.ga,y.gn,y.gcap⟩):=by
 have h1:=heap_setCell_same w b 0 _ 289 (.int .u8 (g.k:Int)) h
 have h2:=heap_setCell_same _ b 1 _ 289 (.bool g.m) h1
 have h3:=heap_setCell_same _ b 2 _ 289 (.int .i64 g.r) h2
 have h4:=heap_setCell_same _ b 3 _ 289 (.int .i64 g.s) h3
 have h5:=heap_setCell_same _ b 4 _ 289 (.slice g.a g.n g.cap) h4
 exact h5
theorem atWy1 {w:World} {b:Nat} {y:Wy} (h:At w b y.o) (ga:Option Addr) (gn gcap:Nat):At (w.setCell ⟨b,5,none⟩ (.slice ga gn gcap)) b (Wy.o ⟨y.f,ga,gn,gcap⟩):=heap_setCell_same w b 5 _ 289 (.slice ga gn gcap) h
abbrev S6 (w:World) (b:Nat) (y:Wy):World:=(S5 w b y.f).setCell ⟨b,5,none⟩ (.slice y.ga y.gn y.gcap)
theorem atWy6 {w:World} {b:Nat} {y:Wy} (h:At w b y.o) (z:Wy):At (S6 w b z) b z.o:=atWy1 (atWy5 h z.f) z.ga z.gn z.gcap
theorem but_s6 (w:World) (b:Nat) (z:Wy):But b w (S6 w b z):=(but_s5 w b z.f).set 5 _
theorem below_S6 {w W:World} (h:Below w.heap.size w W) {b:Nat} (hb:w.heap.size≤b) (z:Wy):Below w.heap.size w (S6 W b z):=h.grown (but_s6 W b z) h.size (fun k hk=>by cases hk;exact hb)
theorem wpl_storeW {w:World} {ops:Array Oper} {rest:List Oper} {a:Act} {Q:Exit→Act→World→Prop} {x y:Nat} {ty:TypeId} {pos:String} {after:Array Edge} (b:Nat) (f0 f:Wy) (hA:At w b f0.o)
  (hx:a.eval (.tmp x)=.pointer (some ⟨b,0,none⟩)) (hy:a.eval (.tmp y)=f.v) (h:∀ w',w'=S6 w b f→wpList Tryz.prog ops Q rest a w'):wpList Tryz.prog ops Q (⟨none,.store 289 (.tmp x) (.tmp y),ty,pos,after,none⟩::rest) a w:=by
 refine wpList_plain rfl fun K hK=>?_
 have g0:=hA.wyF 0
 have g1:=hA.wyF 1
 have g2:=hA.wyF 2
 have g3:=hA.wyF 3
 have g4:=hA.wyF 4
 have g5:=hA.wyF 5
 obtain ⟨⟨hl,q0,q1,q2,q3,q4⟩,q5⟩:=hA.wy
 simp only [Nat.zero_add] at q0 q1 q2 q3 q4 q5
 have hx2:a.tmps[x]?.getD undef=.pointer (some ⟨b,0,none⟩):=by rw [← hx];simp [Act.eval]
 have hy2:a.tmps[y]?.getD undef=f.v:=by rw [← hy];simp [Act.eval]
 unfold Oper.wp
 simp [execOp,hx2,hy2,go_sem,q0,q1,q2,q3,q4,q5,g0,g1,g2,g3,g4,g5]
 exact hK _ _ (h _ rfl)
theorem wp_storeT5 {w:World} {o:Oper} {a:Act} {K:Act→World→Prop} {Q:Exit→Act→World→Prop} {x y:Nat} (b:Nat) (y0:Wy) (f:Fv) (ho:o.op=.store 43 (.tmp x) (.tmp y)) (hd:o.dst=none) (hA:At w b y0.o)
  (hx:a.eval (.tmp x)=.pointer (some ⟨b,0,none⟩)) (hy:a.eval (.tmp y)=f.v) (h:K a (S5 w b f)):o.wp Tryz.prog a w K Q:=by
 have g0:=hA.wyF 0
 have g1:=hA.wyF 1
 have g2:=hA.wyF 2
 have g3:=hA.wyF 3
 have g4:=hA.wyF 4
 obtain ⟨⟨hl,q0,q1,q2,q3,q4⟩,q5⟩:=hA.wy
 simp only [Nat.zero_add] at q0 q1 q2 q3 q4
 have hx2:a.tmps[x]?.getD undef=.pointer (some ⟨b,0,none⟩):=by rw [← hx];simp [Act.eval]
 have hy2:a.tmps[y]?.getD undef=f.v:=by rw [← hy];simp [Act.eval]
 unfold Oper.wp
 simp [execOp,ho,hd,hx2,hy2,go_sem,q0,q1,q2,q3,q4,g0,g1,g2,g3,g4]
 exact h
theorem results_w2 {fn:Func} {i j:Nat} (h:fn.results=#[.cell i 289,.tmp j]) {tmps:Array Value} {W:World} {b4:Nat} {g:Wy} {v:Value} (ht:tmps.getD i undef=.pointer (some ⟨b4,0,none⟩)) (hv:tmps.getD j undef=v) (hC:At W b4 g.o):(results fn tmps).run Tryz.prog W=.ok (.tuple #[g.v,v]) W:=by
 obtain ⟨⟨-,e0,e1,e2,e3,e4⟩,e5⟩:=hC.wy
 simp only [Nat.zero_add] at e0 e1 e2 e3 e4
 have ht2:tmps[i]?.getD undef=.pointer (some ⟨b4,0,none⟩):=by rw [← ht];simp
 have hv2:tmps[j]?.getD undef=v:=by rw [← hv];simp
 simp only [results,h]
 simp [go_sem,ht2,hv2,e0,e1,e2,e3,e4,e5]
theorem Tryz.results221:Tryz.f221.results=#[.cell 6 289,.tmp 7]:=rfl
structure WyI (w0 w V:World) (b8:Nat) (y:Wy) (c:Ch) (gs:List Int):Prop where
 var:At V b8 y.o
 res:At V (w.heap.size+1) zW.o
 ty:TyAt w0 y.f c.ty
 gn:y.gn=gs.length
 row:V.ownsRow w.heap.size 3 1 (.slice y.ga y.gn y.gcap) gs.length (iCells gs)
 bel:Below w.heap.size w V
 lo:w.heap.size+1<b8
theorem row3_ne {V:World} {B n cap b1:Nat} {a:Option Addr} {xs:List Value} {cs:Array Value} {e:Nat} (he:e≠3) (h:V.ownsRow B 3 1 (.slice a n cap) n xs) (hA:At V b1 (.cells cs e (0,0))):some b1≠(Value.slice a n cap).ownBlock:=by
 rcases h.2 with ⟨e0,h0⟩|⟨g,cap',cur,e0,h1,hg,h2,h3,h4,ht⟩
 ·injection e0 with e1 e2 e3
  subst e1
  simp [Value.ownBlock]
 ·injection e0 with e1 e2 e3
  subst e1
  intro e4
  have e2:b1=g:=by simpa [Value.ownBlock] using e4
  subst e2
  unfold At at hA
  rw [hg] at hA
  simp at hA
  exact he hA.2.symm
def wayP (fc:Nat→List Ch) (cl:List Ch) (l:Int) (p:List Int):Option (Ch × List Int):=if 0≤l∧p.length≤8 then (cl[l.toNat]?).bind fun c=>wayC fc c p else none
structure WayIs (w0 w V:World) (y:Wy) (c:Ch) (gs:List Int):Prop where
 ty:TyAt w0 y.f c.ty
 gn:y.gn=gs.length
 row:V.ownsRow w.heap.size 3 1 (.slice y.ga y.gn y.gcap) gs.length (iCells gs)
def WayPost (R:Option (Ch × List Int)) (w0 w V:World) (e:Ending):Prop:=match R with
 | some x=>∃ y:Wy,e=.returned (.tuple #[y.v,.bool true])∧WayIs w0 w V y x.1 x.2
 | none=>e=.returned (.tuple #[zW.v,.bool false])
theorem wayC_step {fc:Nat→List Ch} {c:Ch} {p:List Int} {i:Nat} {s:Int} (hs:p[i]?=some s) (gs:List Int):(wayC fc c (p.drop i)).map (fun z=>(z.1,gs++z.2))=(stepC fc c s).bind fun x=>(wayC fc x.1 (p.drop (i+1))).map (fun z=>(z.1,(gs++[x.2])++z.2)):=by
 obtain ⟨h1,rfl⟩:=List.getElem?_eq_some_iff.1 hs
 rw [List.drop_eq_getElem_cons h1,wayC]
 cases stepC fc c p[i] with
 | none=>rfl
 | some x =>
  show Option.map _ (Option.map _ _)=Option.map _ _
  rw [Option.map_map]
  congr 1
  funext z
  simp
theorem WyI.next {w0 w V V2:World} {b8:Nat} {y:Wy} {c d:Ch} {gs:List Int} {s:Int} {f':Fv} {ga':Option Addr} {gcap':Nat} (h:WyI w0 w V b8 y c gs) (ht:TyAt w0 f' d.ty) {Va:World} (hva:Below V.heap.size V Va) (ho:V2.ownsRow w.heap.size 3 1 (.slice ga' (gs.length+1) gcap') (gs.length+1) (iCells gs++[.int .i64 s])) (hg:Va.grownBy V2 (Value.slice y.ga y.gn y.gcap).ownBlock) :
  At V2 b8 y.o∧WyI w0 w ((S5 V2 b8 f').setCell ⟨b8,5,none⟩ (.slice ga' (gs.length+1) gcap')) b8 ⟨f',ga',gs.length+1,gcap'⟩ d (gs++[s]):=by
 have hrow:V.ownsRow w.heap.size 3 1 (.slice y.ga y.gn y.gcap) y.gn (iCells gs):=by have:=h.row;rw [← h.gn] at this;exact this
 have hv2:At V2 b8 y.o:=(h.var.below hva).grown hg (row3_ne (by decide) hrow h.var)
 have hr2:At V2 (w.heap.size+1) zW.o:=(h.res.below hva).grown hg (row3_ne (by decide) hrow h.res)
 have hb2:Below w.heap.size w V2:=by
  refine (jB h.bel hva).grown hg (Nat.le_trans h.bel.size hva.size) (fun g e=>?_)
  rcases hrow.2 with ⟨e1,h0⟩|⟨g',cap',cur,e1,h1,hg',-⟩
  ·injection e1 with e2 e3 e4
   rw [e2] at e
   simp [Value.ownBlock] at e
  ·injection e1 with e2 e3 e4
   rw [e2] at e
   simp [Value.ownBlock] at e
   omega
 refine ⟨hv2,atWy1 (atWy5 hv2 f') ga' (gs.length+1) gcap',?_,ht,by simp,?_,?_,h.lo⟩
 ·exact (hr2.S5 (by have:=h.lo;omega) f').set (by have:=h.lo;simp;omega) _
 ·rw [show (gs++[s]).length=gs.length+1 by simp,show iCells (gs++[s])=iCells gs++[.int .i64 s] by simp [iCells]]
  have hne:=row3_ne (e:=289) (by decide) ho hv2
  exact own_grow ho ((but_s5 V2 b8 f').set 5 _) (fun g hgg e2=>hne (by rw [hgg,e2]))
 ·exact hb2.grown ((but_s5 V2 b8 f').set 5 _) hb2.size (fun k hk=>by cases hk;have:=h.lo;omega)
structure LF (w:World) (a:Option Addr) (n cap:Nat) (nn:Nat) (cl:List Ch):Prop where
 at_:LcAt w a n cap (cl.map Ch.ty)
 ok:∀ c∈cl,c.ok nn
theorem LF.bel {w w':World} {a:Option Addr} {n cap nn:Nat} {cl:List Ch} (h:LF w a n cap nn cl) (hb:Below w.heap.size w w'):LF w' a n cap nn cl:=⟨h.at_.bel hb,h.ok⟩
theorem own_bel {W W':World} {B e s n:Nat} {v:Value} {xs:List Value} (h:W.ownsRow B e s v n xs) (k:Below W.heap.size W W'):W'.ownsRow B e s v n xs:=own_grow h (r:=none) ⟨k.os,k.tape,k.output,k.size,fun i hi _=>k.block i hi⟩ (fun g _ e=>by cases e)
theorem WyI.rowg {w0 w V:World} {b8:Nat} {y:Wy} {c:Ch} {gs:List Int} (h:WyI w0 w V b8 y c gs):V.ownsRow w.heap.size 3 1 (.slice y.ga y.gn y.gcap) y.gn (iCells gs):=by
 have:=h.row
 rw [← h.gn] at this
 exact this
theorem WyI.fin {w0 w V:World} {b8:Nat} {y z:Wy} {c:Ch} {gs:List Int} (h:WyI w0 w V b8 y c gs):WayIs w0 w (S6 V (w.heap.size+1) z) y c gs where
 ty:=h.ty
 gn:=h.gn
 row:=own_grow h.row (but_s6 V (w.heap.size+1) z) (fun g hg e=>row3_ne (e:=289) (by decide) h.rowg h.res (by rw [hg,e]))
theorem wayOf_any {w0 w:World} (hB0:Below w0.heap.size w0 w) {a la:Option Addr} {n cap ln lcap:Nat} {fc:Nat→List Ch} {cl:List Ch} (hS:SF w0 a n cap fc) (hL:LF w0 la ln lcap n cl) {x:Pt} {p:List Int} (hP:PAt w x p) (R:Option (Ch × List Int)) (hR:R=wayP fc cl x.l p) :
  Calls Tryz.prog 221 #[.slice a n cap,.slice la ln lcap,x.v] w fun e w'=>WayPost R w0 w w' e∧Below w.heap.size w w':=by
 obtain ⟨l,pa,m,pcap⟩:=x
 have hm:m=p.length:=hP.row.len
 have hln:ln=cl.length:=by have:=hL.at_.len;rw [List.length_map] at this;exact this
 have A5:At ((w.alloc (plO l pa m pcap)).alloc zW.o) w.heap.size (plO l pa m pcap):=(At.new _ _).alloc _
 have A6:At ((w.alloc (plO l pa m pcap)).alloc zW.o) (w.heap.size+1) zW.o:=at_snd _ _ _
 have HA6:=jH A6
 have HB0:=jH (bel2:Below w.heap.size w ((w.alloc (plO l pa m pcap)).alloc zW.o))
 show Calls Tryz.prog 221 #[.slice a n cap,.slice la ln lcap,plV l pa m pcap] w _
 by_cases hbad:l<0∨(ln:Int)≤l∨8<m
 ·have hRn:R=none:=by
   rw [hR]
   unfold wayP
   show (if 0≤l∧p.length≤8 then (cl[l.toNat]?).bind fun c=>wayC fc c p else none)=none
   split
   ·rename_i h
    rw [List.getElem?_eq_none (by omega)]
    rfl
   ·rfl
  subst hRn
  clear hR hS hL hP hm hln A5 A6
  by_cases h1:l<0
  ·clear hbad
   go_enter Tryz.func221,Tryz.ntmps221
   go_wp2_with (((with_reducible show wpList _ _ _ (Oper.mk none (Op.store 289 _ _) _ _ _ none::_) _ _);refine wpl_storeW (w.heap.size+1) zW zW HA6.out rfl rfl ?_;intro w9 hw9;have F9:Hid (At w9 (w.heap.size+1) zW.o∧Below w.heap.size w w9):=(by rw [hw9];exact ⟨atWy6 HA6.out zW,below_S6 HB0.out (by omega) zW⟩);clear hw9))
   exact bodyPost_ret (results_w2 (g:=zW) Tryz.results221 rfl rfl F9.out.1) rfl ⟨rfl,F9.out.2⟩
  ·by_cases h2:(ln:Int)≤l
   ·clear hbad
    go_enter Tryz.func221,Tryz.ntmps221
    go_wp2_with (((with_reducible show wpList _ _ _ (Oper.mk none (Op.store 289 _ _) _ _ _ none::_) _ _);refine wpl_storeW (w.heap.size+1) zW zW HA6.out rfl rfl ?_;intro w9 hw9;have F9:Hid (At w9 (w.heap.size+1) zW.o∧Below w.heap.size w w9):=(by rw [hw9];exact ⟨atWy6 HA6.out zW,below_S6 HB0.out (by omega) zW⟩);clear hw9))
    exact bodyPost_ret (results_w2 (g:=zW) Tryz.results221 rfl rfl F9.out.1) rfl ⟨rfl,F9.out.2⟩
   ·have h3:(8:Int)<(m:Int):=by omega
    clear hbad
    go_enter Tryz.func221,Tryz.ntmps221
    go_wp2_with (((with_reducible show wpList _ _ _ (Oper.mk none (Op.store 289 _ _) _ _ _ none::_) _ _);refine wpl_storeW (w.heap.size+1) zW zW HA6.out rfl rfl ?_;intro w9 hw9;have F9:Hid (At w9 (w.heap.size+1) zW.o∧Below w.heap.size w w9):=(by rw [hw9];exact ⟨atWy6 HA6.out zW,below_S6 HB0.out (by omega) zW⟩);clear hw9))
    exact bodyPost_ret (results_w2 (g:=zW) Tryz.results221 rfl rfl F9.out.1) rfl ⟨rfl,F9.out.2⟩
 ·obtain ⟨j,rfl⟩:∃ j:Nat,l=(j:Int):=⟨l.toNat,by omega⟩
  obtain ⟨c0,hc0⟩:∃ c,cl[j]?=some c:=⟨_,List.getElem?_eq_getElem (by omega)⟩
  have hR2:R=(wayC fc c0 (p.drop 0)).map (fun z=>(z.1,[]++z.2)):=by
   rw [hR]
   unfold wayP
   show (if 0≤(j:Int)∧p.length≤8 then (cl[((j:Int)).toNat]?).bind fun c=>wayC fc c p else none)=_
   rw [if_pos ⟨by omega,by omega⟩,Int.toNat_natCast,hc0,List.drop_zero]
   simp
  have hty0:(cl.map Ch.ty)[j]?=some c0.ty:=by rw [List.getElem?_map,hc0];rfl
  obtain ⟨g,off,V,ea,hc5,hT⟩:=hL.at_.one hty0
  subst ea
  have HR2:=jH hR2
  have HS:=jH hS
  have HL:=jH hL
  have HP:=jH hP
  have HM:=jH hm
  have HTT:=jH hT
  have HOK:=jH (hL.ok c0 (List.mem_of_getElem? hc0))
  obtain ⟨hg,p0,p1,p2,p3,p4⟩:=hc5.below hB0
  clear hc5
  have HB00:=jH hB0
  have j0:(0:Int)≤(j:Int):=by omega
  have j1:(j:Int)<(ln:Int):=by omega
  have j2:¬ (ln:Int)≤(j:Int):=by omega
  have j3:¬ (8:Int)<(m:Int):=by omega
  have j4:¬ (j:Int)<0:=by omega
  have W0:Hid (WyI w0 w (((w.alloc (plO j pa m pcap)).alloc zW.o).alloc (Wy.o ⟨V,none,0,0⟩)) (w.heap.size+2) ⟨V,none,0,0⟩ c0 []):=by
   have h8:At (((w.alloc (plO j pa m pcap)).alloc zW.o).alloc (Wy.o ⟨V,none,0,0⟩)) (w.heap.size+2) (Wy.o ⟨V,none,0,0⟩):=by
    have:=At.new ((w.alloc (plO j pa m pcap)).alloc zW.o) (Wy.o ⟨V,none,0,0⟩)
    simpa only [World.size_alloc] using this
   exact ⟨h8,HA6.out.alloc _,HTT.out,rfl,World.ownsRow_nil _ _ _ _,belA HB0.out,by omega⟩
  clear hR hR2 hS hL hP hm hln hT hty0 hc0 A5 A6 hbad hB0
  go_enter Tryz.func221,Tryz.ntmps221
  obtain ⟨i3,hi3,hz3,hs3,hb3⟩:=info_parts Tryz.info3
  go_wp2_with fail
  obtain ⟨w9,hw9⟩:∃ w9,w9=((w.alloc (plO j pa m pcap)).alloc zW.o).alloc (Wy.o ⟨V,none,0,0⟩):=⟨_,rfl⟩
  rw [← hw9] at W0
  rw [show (((w.alloc (Obj.cells #[Value.int IntKind.i64 (j:Int),Value.slice pa m pcap] 109)).alloc (Obj.cells #[Value.int IntKind.u8 0,Value.bool false,Value.int IntKind.i64 0,Value.int IntKind.i64 0,Value.slice none 0 0,Value.slice none 0 0] 289)).alloc (Obj.cells #[Value.int IntKind.u8 (V.k:Int),Value.bool V.m,Value.int IntKind.i64 V.r,Value.int IntKind.i64 V.s,Value.slice V.a V.n V.cap,Value.slice none 0 0] 289))=w9 from hw9.symm]
  obtain ⟨b8,hb8⟩:∃ b8,b8=w.heap.size+2:=⟨_,rfl⟩
  rw [← hb8] at W0 ⊢
  clear hw9 hb8 p0 p1 p2 p3 p4 hg HA6 HB0
  go_loopw [40] (fun v V'=>∃ (i:Nat) (y:Wy) (c:Ch) (gs:List Int),v=.int .i64 i∧i≤m∧gs.length=i∧c.ok n∧R=(wayC fc c (p.drop i)).map (fun z=>(z.1,gs++z.2))∧WyI w0 w V' b8 y c gs) (fun v _=>m - (intOf v).toNat)
  case atStart=>exact ⟨0,⟨V,none,0,0⟩,c0,[],rfl,Nat.zero_le _,rfl,HOK.out,HR2.out,W0.out⟩
  case round =>
   obtain ⟨i,y,c,gs,rfl,hi,hgl,hok,hRR,hW⟩:=hrel
   have HW:=jH hW
   have HRR:=jH hRR
   have HC:=jH hok
   have HGL:=jH hgl
   clear hW hRR hok hgl W0 HR2 HOK
   have hlo:=HW.out.lo
   have nb:¬ b8=w.heap.size+1:=by omega
   by_cases hlt:i<m
   ·obtain ⟨s,hs⟩:∃ s,p[i]?=some s:=⟨_,List.getElem?_eq_getElem (by have:=HM.out;omega)⟩
    obtain ⟨g9,off9,ea,hg9,hc9,s0,s1⟩:=(HP.out.row.bel HW.out.bel).nth hs
    have ea2:pa=some ⟨g9,off9,none⟩:=ea
    subst ea2
    have st:=wayC_step (fc:=fc) (c:=c) hs gs
    rw [← HRR.out] at st
    have ST:=jH st
    have C:=jH (stepFrom_any (jB HB00.out HW.out.bel) HS.out c y.f HC.out HW.out.ty s s0 s1 _ rfl)
    obtain ⟨⟨hl8,q0,q1,q2,q3,q4⟩,q5⟩:=HW.out.var.wy
    simp only [Nat.zero_add] at q0 q1 q2 q3 q4
    have i0:(0:Int)≤(i:Int):=by omega
    have i1:(i:Int)<(m:Int):=by omega
    have i2:(i:Int)≤8:=by omega
    clear hs ea st s0 s1
    cases hst:stepC fc c s with
    | none =>
     rw [hst] at C ST
     have hRn:R=none:=ST.out
     subst hRn
     have C2:Hid (Calls Tryz.prog 224 #[.slice a n cap,y.f.v,.int .i64 s] wr fun e w'=>e=.returned (.tuple #[zT.v,.int .i64 0,.bool false])∧Below wr.heap.size wr w'):=C.out
     clear C ST hst
     go_wp2_with (first
      | (go_at_call 224;refine C2.out.mono ?_;rintro e w1 ⟨rfl,hb1⟩;have HB1:=jH (jB HW.out.bel hb1);have HR1:=jH (HW.out.res.below hb1);clear hb1)
      | ((with_reducible show wpList _ _ _ (Oper.mk none (Op.store 289 _ _) _ _ _ none::_) _ _);refine wpl_storeW (w.heap.size+1) zW zW (HR1.out.alloc _) rfl rfl ?_;intro w9 hw9;have F9:Hid (At w9 (w.heap.size+1) zW.o∧Below w.heap.size w w9):=(by rw [hw9];exact ⟨atWy6 (HR1.out.alloc _) zW,below_S6 (belA HB1.out) (by omega) zW⟩);clear hw9))
     exact bodyPost_ret (results_w2 (g:=zW) Tryz.results221 rfl rfl F9.out.1) rfl ⟨rfl,F9.out.2⟩
    | some x =>
     obtain ⟨d,g⟩:=x
     rw [hst] at C ST
     have hd:=stepC_ok HS.out HC.out hst
     have HD:=jH hd.1
     have C2:Hid (Calls Tryz.prog 224 #[.slice a n cap,y.f.v,.int .i64 s] wr fun e w'=>(∃ f':Fv,e=.returned (.tuple #[f'.v,.int .i64 g,.bool true])∧TyAt w0 f' d.ty)∧Below wr.heap.size wr w'):=C.out
     clear C hst hd
     go_wp2_with (go_at_call 224;refine C2.out.mono ?_;rintro e w1 ⟨⟨f',rfl,hT'⟩,hb1⟩;have HB1:=jH hb1;have HT':=jH hT';have HV1:=jH (HW.out.var.below hb1);clear hb1 hT')
     -- the region
     obtain ⟨b11,hb11⟩:∃ b11,b11=w1.heap.size:=⟨_,rfl⟩
     have HF1:Hid (At (w1.alloc f'.o) b11 f'.o):=by rw [hb11];exact At.new _ _
     have hb81:b8<b11:=by rw [hb11];exact HV1.out.lt
     have HVA:Hid (At (w1.alloc f'.o) b8 y.o):=HV1.out.alloc _
     have HVB:Hid (Below wr.heap.size wr (w1.alloc f'.o)):=belA HB1.out
     have hrow:=own_bel HW.out.rowg HVB.out
     have HROW:=jH hrow
     have q5':=HVA.out.wy.2
     have hgn:=HW.out.gn
     have HGN:=jH hgn
     rw [← hb11]
     obtain ⟨wa,hwa⟩:∃ wa,wa=w1.alloc f'.o:=⟨_,rfl⟩
     rw [← hwa] at HF1 HVA HVB HROW q5'
     rw [show w1.alloc (Obj.cells #[Value.int IntKind.u8 (f'.k:Int),Value.bool f'.m,Value.int IntKind.i64 f'.r,Value.int IntKind.i64 f'.s,Value.slice f'.a f'.n f'.cap] 43)=wa from hwa.symm]
     clear hrow hwa q0 q1 q2 q3 q4 q5 hb11 hgn C2
     refine beginH (S:=fun W=>C5 W b11 0 f') (fun _ _ _ _ _ h=>h) (by kernel_rfl) HF1.out.ty (fun hq hH=>?_)
     refine tq 0 56 f'.v hq rfl rfl (fun W hSw=>by (obtain ⟨-,s0,s1,s2,s3,s4⟩:=hSw;simp only [Nat.zero_add] at s0 s1 s2 s3 s4;go_simp;try rfl)) hH ?_
     simp only [pb,pc]
     refine tz 1 57 _ hq rfl rfl hH ?_
     simp only [pb,pc]
     refine tz 3 59 _ hq rfl rfl hH ?_
     simp only [pb,pc]
     refine aRd [2,4] ?_
     refine AllReadyH.cons rfl (fun K hK=>?_) (AllReadyH.cons rfl (fun K hK=>?_) AllReadyH.nil)
     ·go_simp
      go_wp2_with fail
      refine hK.out _ _ (HF1.out.ty) (fun hH=>?_)
      clear hK K
      try simp only [Act.put,List.setIfInBounds_toArray,pb,pc]
      refine tz 6 62 _ hq rfl rfl hH ?_
      simp only [pb,pc]
      refine aR1 4 rfl (fun K hK=>?_)
      go_simp
      go_wp2_with fail
      refine hK.out _ _ (HF1.out.alloc _).ty (fun hH=>?_)
      clear hK K
      try simp only [Act.put,List.setIfInBounds_toArray,pb,pc]
      refine aR1 5 rfl (fun K hK=>?_)
      refine wp_append_own _ (.tmp 58) (.tmp 60) 55 rfl w.heap.size 3 i3 (.int .i64 0) 1 8 Tryz.underlying55 hi3 hz3 hs3 hb3 rfl (by omega) (.slice y.ga y.gn y.gcap) y.gn (iCells gs) rfl (HROW.out.alloc _).drew ⟨wa.heap.size,0,none⟩ 1 1 [.int .i64 g] rfl rfl (new1 wa _ 3) (by intro u hu;simp at hu;subst hu;rfl) (by unfold maxLen;have:=HGN.out;have:=HGL.out;omega) (by have:=HGN.out;have:=HGL.out;omega) (by have:=HW.out.bel.size;have:=HVB.out.size;show _≤(wa.alloc _).heap.size;simp;omega) ?_
      intro v3 w3 ho3 hg3 hn3
      obtain ⟨a3,cap3,rfl⟩:=own_sl ho3
      rw [HGN.out] at ho3
      obtain ⟨hA3,hN3⟩:=HW.out.next (s:=g) (f':=f') (d:=d) HT'.out (Va:=(wa.alloc (.cells #[.int .i64 g] 3)).drew) (belN (belA HVB.out) 1) ho3 hg3
      have HF3:=jH ((HF1.out.alloc (.cells #[.int .i64 g] 3)).drew.grown hg3 (row3_ne (e:=43) (by decide) HROW.out HF1.out))
      have HA3:=jH hA3
      have HN3:=jH hN3
      clear ho3 hg3 hn3 hA3 hN3
      refine hK.out _ _ HF3.out.ty (fun hH=>?_)
      clear hK K
      try simp only [Act.put,List.setIfInBounds_toArray,pb,pc]
      refine aR1 7 rfl (fun K hK=>?_)
      refine wp_storeT5 b8 y f' rfl rfl HA3.out rfl rfl ?_
      refine hK.out _ _ (HF3.out.S5 (by omega) f').ty (fun hH=>?_)
      clear hK K
      try simp only [Act.put,List.setIfInBounds_toArray,pb,pc]
      refine tz 8 63 _ hq rfl rfl hH ?_
      simp only [pb,pc]
      refine aR1 9 rfl (fun K hK=>?_)
      have hA4:=atWy5 HA3.out f'
      have r5:=hA4.wy.2
      have r6:=hA4.wyF 5
      go_simp
      go_wp2_with fail
      refine hK.out _ _ ((HF3.out.S5 (by omega) f').set (by simp;omega) _).ty (fun hH=>?_)
      clear hK K
      try simp only [Act.put,List.setIfInBounds_toArray,pb,pc]
      refine wpAnyH_done (by kernel_rfl) ?_ _
      go_wp2_with fail
      refine ⟨⟨i+1,⟨f',a3,y.gn+1,cap3⟩,d,gs++[g],rfl,hlt,by have:=HGL.out;simp;omega,HD.out,ST.out,?_⟩,?_⟩
      ·have e:=HN3.out
       rw [← HGN.out] at e
       exact e
      ·show m - ((i:Int)+1).toNat<m - (i:Int).toNat
       omega
     ·go_simp
      go_wp2_with fail
      refine hK.out _ _ (HF1.out.alloc _).ty (fun hH=>?_)
      clear hK K
      try simp only [Act.put,List.setIfInBounds_toArray,pb,pc]
      refine aR1 2 rfl (fun K hK=>?_)
      have q6:=(HVA.out.alloc (.cells #[.int .i64 g] 3)).wy.2
      go_simp
      go_wp2_with fail
      refine hK.out _ _ ((HF1.out.alloc _).ty) (fun hH=>?_)
      clear hK K
      try simp only [Act.put,List.setIfInBounds_toArray,pb,pc]
      refine tz 6 62 _ hq rfl rfl hH ?_
      simp only [pb,pc]
      refine aR1 5 rfl (fun K hK=>?_)
      refine wp_append_own _ (.tmp 58) (.tmp 60) 55 rfl w.heap.size 3 i3 (.int .i64 0) 1 8 Tryz.underlying55 hi3 hz3 hs3 hb3 rfl (by omega) (.slice y.ga y.gn y.gcap) y.gn (iCells gs) rfl (HROW.out.alloc _).drew ⟨wa.heap.size,0,none⟩ 1 1 [.int .i64 g] rfl rfl (new1 wa _ 3) (by intro u hu;simp at hu;subst hu;rfl) (by unfold maxLen;have:=HGN.out;have:=HGL.out;omega) (by have:=HGN.out;have:=HGL.out;omega) (by have:=HW.out.bel.size;have:=HVB.out.size;show _≤(wa.alloc _).heap.size;simp;omega) ?_
      intro v3 w3 ho3 hg3 hn3
      obtain ⟨a3,cap3,rfl⟩:=own_sl ho3
      rw [HGN.out] at ho3
      obtain ⟨hA3,hN3⟩:=HW.out.next (s:=g) (f':=f') (d:=d) HT'.out (Va:=(wa.alloc (.cells #[.int .i64 g] 3)).drew) (belN (belA HVB.out) 1) ho3 hg3
      have HF3:=jH ((HF1.out.alloc (.cells #[.int .i64 g] 3)).drew.grown hg3 (row3_ne (e:=43) (by decide) HROW.out HF1.out))
      have HA3:=jH hA3
      have HN3:=jH hN3
      clear ho3 hg3 hn3 hA3 hN3
      refine hK.out _ _ HF3.out.ty (fun hH=>?_)
      clear hK K
      try simp only [Act.put,List.setIfInBounds_toArray,pb,pc]
      refine aR1 7 rfl (fun K hK=>?_)
      refine wp_storeT5 b8 y f' rfl rfl HA3.out rfl rfl ?_
      refine hK.out _ _ (HF3.out.S5 (by omega) f').ty (fun hH=>?_)
      clear hK K
      try simp only [Act.put,List.setIfInBounds_toArray,pb,pc]
      refine tz 8 63 _ hq rfl rfl hH ?_
      simp only [pb,pc]
      refine aR1 9 rfl (fun K hK=>?_)
      have hA4:=atWy5 HA3.out f'
      have r5:=hA4.wy.2
      have r6:=hA4.wyF 5
      go_simp
      go_wp2_with fail
      refine hK.out _ _ ((HF3.out.S5 (by omega) f').set (by simp;omega) _).ty (fun hH=>?_)
      clear hK K
      try simp only [Act.put,List.setIfInBounds_toArray,pb,pc]
      refine wpAnyH_done (by kernel_rfl) ?_ _
      go_wp2_with fail
      refine ⟨⟨i+1,⟨f',a3,y.gn+1,cap3⟩,d,gs++[g],rfl,hlt,by have:=HGL.out;simp;omega,HD.out,ST.out,?_⟩,?_⟩
      ·have e:=HN3.out
       rw [← HGN.out] at e
       exact e
      ·show m - ((i:Int)+1).toNat<m - (i:Int).toNat
       omega
     -- its end
   ·obtain rfl:i=m:=by omega
    have lt:¬ (i:Int)<(i:Int):=by omega
    have hRe:R=some (c,gs):=by
     rw [HRR.out,List.drop_eq_nil_of_le (by have:=HM.out;omega)]
     simp [wayC]
    subst hRe
    obtain ⟨⟨hl8,q0,q1,q2,q3,q4⟩,q5⟩:=HW.out.var.wy
    simp only [Nat.zero_add] at q0 q1 q2 q3 q4
    go_wp2_with (((with_reducible show wpList _ _ _ (Oper.mk none (Op.store 289 _ _) _ _ _ none::_) _ _);refine wpl_storeW (w.heap.size+1) zW y HW.out.res rfl rfl ?_;intro w9 hw9;have F9:Hid (At w9 (w.heap.size+1) y.o∧Below w.heap.size w w9∧WayIs w0 w w9 y c gs):=(by rw [hw9];exact ⟨atWy6 HW.out.res y,below_S6 HW.out.bel (by omega) y,HW.out.fin⟩);clear hw9))
    exact bodyPost_ret (results_w2 (g:=y) Tryz.results221 rfl rfl F9.out.1) rfl ⟨⟨y,rfl,F9.out.2.2⟩,F9.out.2.1⟩
def c6 (y:Wy):List Value:=[.int .u8 (y.f.k:Int),.bool y.f.m,.int .i64 y.f.r,.int .i64 y.f.s,.slice y.f.a y.f.n y.f.cap,.slice y.ga y.gn y.gcap]
def wCells:List Wy→List Value
 | []=>[]
 | y::l=>c6 y++wCells l
theorem wCells_snoc:∀ (l:List Wy) (y:Wy),wCells (l++[y])=wCells l++c6 y
 | [],y=>by simp [wCells]
 | x::l,y=>by simp [wCells,wCells_snoc l y]
theorem wCells_at:∀ (l:List Wy) (i:Nat) (y:Wy),l[i]?=some y→∀ k,k<6→(wCells l)[i*6+k]?=(c6 y)[k]?
 | [],i,y,h,k,hk=>by simp at h
 | x::l,0,y,h,k,hk=>by
  simp at h
  subst h
  simp only [wCells]
  rw [List.getElem?_append_left (by simp [c6];omega)]
  simp
 | x::l,i+1,y,h,k,hk=>by
  have ih:=wCells_at l i y (by simpa using h) k hk
  simp only [wCells]
  rw [List.getElem?_append_right (by simp [c6];omega),show (i+1)*6+k - (c6 x).length=i*6+k by simp [c6];omega]
  exact ih
theorem c6_ones (y:Wy):∀ u∈c6 y,u.oneCell'=true:=fun u hu=>by
 simp [c6] at hu
 rcases hu with rfl|rfl|rfl|rfl|rfl|rfl <;> rfl
theorem c6_new (W:World) (y:Wy):∀ j u,(c6 y)[j]?=some u→(W.alloc y.o).cell? ((⟨W.heap.size,0,none⟩:Addr).add j)=some u:=fun j u hu=>by
 rw [Addr.add_lit,Nat.zero_add]
 have hA:At (W.alloc y.o) W.heap.size y.o:=At.new _ _
 generalize W.alloc y.o=W' at hA ⊢
 unfold At at hA
 have:W'.cell? ⟨W.heap.size,j,none⟩=(c6 y).toArray[j]?:=by simp [World.cell?,hA,c6]
 rw [this]
 simpa using hu
theorem own_low {W:World} {B B' e s n:Nat} {v:Value} {xs:List Value} (h:W.ownsRow B e s v n xs) (hB:B'≤B):W.ownsRow B' e s v n xs:=by
 refine ⟨h.1,?_⟩
 rcases h.2 with h0|⟨g,cap,cur,e0,h1,h2⟩
 ·exact .inl h0
 ·exact .inr ⟨g,cap,cur,e0,Nat.le_trans hB h1,h2⟩
theorem own_apart {W:World} {B B' e e' s s' n n':Nat} {v v':Value} {xs xs':List Value} (he:e≠e') (h:W.ownsRow B e s v n xs) (h':W.ownsRow B' e' s' v' n' xs'):∀ g,v.ownBlock=some g→some g≠v'.ownBlock:=fun g hg e1=>by
 rcases h.2 with ⟨e0,-⟩|⟨g1,cap1,cur1,e0,-,h1,-⟩
 ·subst e0
  simp [Value.ownBlock] at hg
 ·subst e0
  rcases h'.2 with ⟨e2,-⟩|⟨g2,cap2,cur2,e2,-,h2,-⟩
  ·subst e2
   simp [Value.ownBlock] at e1
  ·subst e2
   have a1:g1=g:=by simpa [Value.ownBlock] using hg
   have a2:g=g2:=by simpa [Value.ownBlock] using e1
   subst a1 a2
   rw [h1] at h2
   simp at h2
   exact he h2.2
theorem own_lo {W:World} {B e s n:Nat} {v:Value} {xs:List Value} (h:W.ownsRow B e s v n xs):∀ g,v.ownBlock=some g→B≤g:=fun g hg=>by
 rcases h.2 with ⟨e0,-⟩|⟨g1,cap1,cur1,e0,hb,-⟩
 ·subst e0
  simp [Value.ownBlock] at hg
 ·subst e0
  have a1:g1=g:=by simpa [Value.ownBlock] using hg
  omega
theorem WayIs.bel {w0 w V V':World} {y:Wy} {c:Ch} {gs:List Int} (h:WayIs w0 w V y c gs) (k:Below V.heap.size V V'):WayIs w0 w V' y c gs:=⟨h.ty,h.gn,own_bel h.row k⟩
theorem WayIs.low {w0 w w2 V:World} {y:Wy} {c:Ch} {gs:List Int} (h:WayIs w0 w V y c gs) (k:w2.heap.size≤w.heap.size):WayIs w0 w2 V y c gs:=⟨h.ty,h.gn,own_low h.row k⟩
theorem WayIs.grow {w0 w V V':World} {y:Wy} {c:Ch} {gs:List Int} {B n:Nat} {v:Value} {xs:List Value} (h:WayIs w0 w V y c gs) (hr:V.ownsRow B 289 6 v n xs) (k:V.grownBy V' v.ownBlock):WayIs w0 w V' y c gs:=⟨h.ty,h.gn,own_grow h.row k (own_apart (by decide) h.row hr)⟩
structure PsAt (w:World) (g:Nat) (xs:List (Pt × List Int)):Prop where
 lt:g<w.heap.size
 cells:∀ (i:Nat) (x:Pt) (p:List Int),xs[i]?=some (x,p)→w.cell? ⟨g,i*2,none⟩=some (.int .i64 x.l)∧w.cell? ⟨g,i*2+1,none⟩=some (.slice x.a x.n x.cap)∧PAt w x p
theorem PsAt.bel {w w':World} {g:Nat} {xs:List (Pt × List Int)} (h:PsAt w g xs) (hb:Below w.heap.size w w'):PsAt w' g xs where
 lt:=Nat.lt_of_lt_of_le h.lt hb.size
 cells:=fun i x p hi=>by
  obtain ⟨h1,h2,h3⟩:=h.cells i x p hi
  exact ⟨(hb.cell (p:=⟨g,i*2,none⟩) h.lt).trans h1,(hb.cell (p:=⟨g,i*2+1,none⟩) h.lt).trans h2,h3.bel hb⟩
structure FoIs (w0 w V:World) (v:Value) (xs:List (Pt × List Int)) (fc:Nat→List Ch) (cl:List Ch) (ys:List Wy):Prop where
 len:ys.length=xs.length
 row:V.ownsRow w.heap.size 289 6 v ys.length (wCells ys)
 way:∀ (i:Nat) (x:Pt) (p:List Int),xs[i]?=some (x,p)→∃ (y:Wy) (c:Ch) (gs:List Int),ys[i]?=some y∧wayP fc cl x.l p=some (c,gs)∧WayIs w0 w V y c gs
theorem FoIs.bel {w0 w V V':World} {v:Value} {xs:List (Pt × List Int)} {fc:Nat→List Ch} {cl:List Ch} {ys:List Wy} (h:FoIs w0 w V v xs fc cl ys) (k:Below V.heap.size V V'):FoIs w0 w V' v xs fc cl ys where
 len:=h.len
 row:=own_bel h.row k
 way:=fun i x p hi=>by
  obtain ⟨y,c,gs,h1,h2,h3⟩:=h.way i x p hi
  exact ⟨y,c,gs,h1,h2,h3.bel k⟩
theorem FoIs.next {w0 w V V':World} {v v':Value} {xs:List (Pt × List Int)} {fc:Nat→List Ch} {cl:List Ch} {ys:List Wy} (h:FoIs w0 w V v xs fc cl ys) {y:Wy} {x:Pt} {p:List Int} {c:Ch} {gs:List Int} (hw:wayP fc cl x.l p=some (c,gs)) (hy:WayIs w0 w V y c gs) (ho:V'.ownsRow w.heap.size 289 6 v' (ys.length+1) (wCells ys++c6 y)) (hg:V.grownBy V' v.ownBlock):FoIs w0 w V' v' (xs++[(x,p)]) fc cl (ys++[y]) where
 len:=by simp [h.len]
 row:=by
  rw [wCells_snoc,show (ys++[y]).length=ys.length+1 by simp]
  exact ho
 way:=fun i x' p' hi=>by
  rcases Nat.lt_or_ge i xs.length with hl|hl
  ·rw [List.getElem?_append_left hl] at hi
   obtain ⟨y',c',gs',h1,h2,h3⟩:=h.way i x' p' hi
   refine ⟨y',c',gs',?_,h2,h3.grow h.row hg⟩
   rw [List.getElem?_append_left (by rw [h.len];exact hl)]
   exact h1
  ·rw [List.getElem?_append_right hl] at hi
   have hi0:i - xs.length=0:=by
    have:=(List.getElem?_eq_some_iff.1 hi).1
    simp at this
    omega
   rw [hi0] at hi
   simp at hi
   obtain ⟨rfl,rfl⟩:=hi
   refine ⟨y,c,gs,?_,hw,hy.grow h.row hg⟩
   rw [List.getElem?_append_right (by rw [h.len];exact hl),h.len,hi0]
   rfl
theorem Tryz.info289:(Tryz.prog.info? 289).map (fun i=>(i.zero,i.size,i.bytes))=some (some (.agg #[.int .u8 0,.bool false,.int .i64 0,.int .i64 0,.slice none 0 0,.slice none 0 0]),6,72):=by kernel_rfl
def FoPost (w0 w V:World) (xs:List (Pt × List Int)) (fc:Nat→List Ch) (cl:List Ch) (e:Ending):Prop :=
 (∃ v ys,e=.returned (.tuple #[v,.int .i64 0])∧FoIs w0 w V v xs fc cl ys)∨e=.returned (.tuple #[.slice none 0 0,.int .i64 2])∧∃ x p,(x,p)∈xs∧wayP fc cl x.l p=none
theorem follow_yes {w0 w:World} (hB0:Below w0.heap.size w0 w) {a la:Option Addr} {n cap ln lcap:Nat} {fc:Nat→List Ch} {cl:List Ch} (hC:Calls Tryz.prog 220 #[.slice a n cap,.slice la ln lcap] w fun e w'=>e=.returned (.bool true)∧Below w.heap.size w w') (hS:SF w0 a n cap fc) (hL:LF w0 la ln lcap n cl) {g:Nat} {xs:List (Pt × List Int)} (hX:PsAt w g xs) (hk:xs.length≤10) :
  Calls Tryz.prog 207 #[.slice a n cap,.slice la ln lcap,.slice (some ⟨g,0,none⟩) xs.length xs.length] w fun e w'=>FoPost w0 w w' xs fc cl e∧Below w.heap.size w w':=by
 obtain ⟨k,hkk⟩:∃ k,k=xs.length:=⟨_,rfl⟩
 rw [← hkk] at hk ⊢
 have HK:=jH hkk
 have HC:=jH hC
 have HX:=jH hX
 have HB0:=jH hB0
 have HS:=jH hS
 have HL:=jH hL
 obtain ⟨i75,hi75,hz75,hs75,hb75⟩:=info_parts Tryz.info289
 clear hC hX hB0 hS hL hkk
 go_enter Tryz.func207,Tryz.ntmps207
 go_wp2_with (go_at_call 220;refine HC.out.mono ?_;rintro e w1 ⟨rfl,hb1⟩)
 have HB1:=jH hb1
 clear hb1 HC
 go_loopw [8,19] (fun v z V=>∃ (i:Nat) (ys:List Wy),i≤k∧z=.int .i64 i∧FoIs w0 w V v (xs.take i) fc cl ys∧Below w.heap.size w V) (fun _ z _=>k - (intOf z).toNat)
 case atStart=>exact ⟨0,[],Nat.zero_le _,rfl,⟨rfl,World.ownsRow_nil _ _ _ _,fun i x p hi=>by simp at hi⟩,HB1.out⟩
 case round =>
  obtain ⟨i,ys,hi,rfl,hF,hB⟩:=hrel
  have HF:=jH hF
  have HB:=jH hB
  clear hF hB HB1
  obtain ⟨av,cv,hv⟩:=own_sl HF.out.row
  subst hv
  by_cases hlt:i<k
  ·obtain ⟨⟨x,p⟩,hx⟩:∃ x,xs[i]?=some x:=⟨_,List.getElem?_eq_getElem (by have:=HK.out;omega)⟩
   obtain ⟨c0,c1,hP⟩:=(HX.out.bel HB.out).cells i x p hx
   have hgl:=(HX.out.bel HB.out).lt
   have HXX:=jH hx
   have i0:(0:Int)≤(i:Int):=by omega
   have i1:(i:Int)<(k:Int):=by omega
   have i2:(i:Int)≤10:=by omega
   have C:=jH (wayOf_any (jB HB0.out (belA HB.out:Below w.heap.size w (wr.alloc x.o))) HS.out HL.out (hP.bel (belA bR:Below wr.heap.size wr (wr.alloc x.o))) _ rfl)
   obtain ⟨l,pa,m,pcap⟩:=x
   clear hx hP
   cases hR:wayP fc cl l p with
   | none =>
    have C2:Hid (Calls Tryz.prog 221 #[.slice a n cap,.slice la ln lcap,plV l pa m pcap] (wr.alloc (plO l pa m pcap)) fun e w'=>e=.returned (.tuple #[zW.v,.bool false])∧Below (wr.alloc (plO l pa m pcap)).heap.size (wr.alloc (plO l pa m pcap)) w'):=by
     have:=C.out
     show Calls _ _ _ _ _
     have e:wayP fc cl (⟨l,pa,m,pcap⟩:Pt).l p=none:=hR
     rw [e] at this
     exact this
    have HN:Hid (∃ x p,(x,p)∈xs∧wayP fc cl x.l p=none):=⟨_,p,List.mem_of_getElem? HXX.out,hR⟩
    clear C hR
    go_wp2_with (go_at_call 221;refine C2.out.mono ?_;rintro e w2 ⟨rfl,hb2⟩)
    go_ret2
    exact ⟨.inr ⟨rfl,HN.out⟩,belA (jB HB.out (below1 hb2))⟩
   | some z =>
    obtain ⟨c,gs⟩:=z
    have C2:Hid (Calls Tryz.prog 221 #[.slice a n cap,.slice la ln lcap,plV l pa m pcap] (wr.alloc (plO l pa m pcap)) fun e w'=>(∃ y:Wy,e=.returned (.tuple #[y.v,.bool true])∧WayIs w0 (wr.alloc (plO l pa m pcap)) w' y c gs)∧Below (wr.alloc (plO l pa m pcap)).heap.size (wr.alloc (plO l pa m pcap)) w'):=by
     have:=C.out
     show Calls _ _ _ _ _
     have e:wayP fc cl (⟨l,pa,m,pcap⟩:Pt).l p=some (c,gs):=hR
     rw [e] at this
     exact this
    have HR:=jH hR
    clear C hR
    have hyl:ys.length≤10:=by
     have:=HF.out.len
     rw [List.length_take] at this
     omega
    go_wp2_with (first
     | (go_at_call 221;refine C2.out.mono ?_;rintro e w2 ⟨⟨y,rfl,hy⟩,hb2⟩;have HB2:=jH (below1 hb2);have HY:Hid (WayIs w0 w ((w2.alloc y.o).alloc y.o) y c gs):=((hy.bel (belA (belA bR))).low (by have:=HB.out.size;simp;omega));have HFp:Hid (FoIs w0 w ((w2.alloc y.o).alloc y.o) (.slice av ys.length cv) (xs.take i) fc cl ys):=(HF.out.bel (belA (belA HB2.out)));clear hb2 hy)
     | (at_builtin;refine wpList_append_own _ rfl (.tmp 32) (.tmp 34) 276 rfl w.heap.size 289 i75 (.agg #[.int .u8 0,.bool false,.int .i64 0,.int .i64 0,.slice none 0 0,.slice none 0 0]) 6 72 Tryz.underlying276 hi75 hz75 hs75 hb75 rfl (by omega) (.slice av ys.length cv) ys.length (wCells ys) rfl HFp.out.row ⟨w2.heap.size+1,0,none⟩ 1 1 (c6 y) rfl rfl (by have:=c6_new (w2.alloc y.o) y;simpa only [World.size_alloc] using this) (c6_ones y) (by unfold maxLen;omega) (by omega) (by have:=HB.out.size;have:=HB2.out.size;simp;omega) ?_;intro v3 w3 ho3 hg3 hn3;have HN3:=jH (HFp.out.next (x:=⟨l,pa,m,pcap⟩) (p:=p) HR.out HY.out ho3 hg3);have HB3:=jH ((jB HB.out (belA (belA HB2.out)):Below w.heap.size w ((w2.alloc y.o).alloc y.o)).grown hg3 (by have:=HB.out.size;have:=HB2.out.size;simp;omega) (own_lo HFp.out.row));clear ho3 hg3 hn3))
    refine ⟨⟨i+1,ys++[y],hlt,rfl,?_,HB3.out⟩,?_⟩
    ·have e:=HN3.out
     rw [List.take_add_one,HXX.out]
     exact e
    ·show k - ((i:Int)+1).toNat<k - (i:Int).toNat
     omega
  ·obtain rfl:i=k:=by omega
   have lt:¬ (i:Int)<(i:Int):=by omega
   go_wp2_with fail
   go_ret2
   refine ⟨.inl ⟨_,ys,rfl,?_⟩,HB.out⟩
   have e:=HF.out
   rw [HK.out,List.take_length] at e
   exact e
theorem follow_no {w:World} {a la pa:Option Addr} {n cap ln lcap pn pcap:Nat} (hC:Calls Tryz.prog 220 #[.slice a n cap,.slice la ln lcap] w fun e w'=>e=.returned (.bool false)∧Below w.heap.size w w') :
  Calls Tryz.prog 207 #[.slice a n cap,.slice la ln lcap,.slice pa pn pcap] w fun e w'=>e=.returned (.tuple #[.slice none 0 0,.int .i64 2])∧Below w.heap.size w w':=by
 have HC:=jH hC
 clear hC
 go_enter Tryz.func207,Tryz.ntmps207
 go_wp2_with (go_at_call 220;refine HC.out.mono ?_;rintro e w1 ⟨rfl,hb1⟩)
 go_ret2
 exact ⟨rfl,hb1⟩
structure Cx (w:World) (a la:Option Addr) (n cap ln lcap:Nat) (ok:Bool) (fc:Nat→List Ch) (cl:List Ch):Prop where
 all:∀ W,Below w.heap.size w W→Calls Tryz.prog 220 #[.slice a n cap,.slice la ln lcap] W fun e w'=>e=.returned (.bool ok)∧Below W.heap.size W w'
 sf:ok=true→SF w a n cap fc
 lf:ok=true→LF w la ln lcap n cl
def wyX (ok:Bool) (fc:Nat→List Ch) (cl:List Ch) (l:Int) (p:List Int):Option (Ch × List Int):=if ok=true then wayP fc cl l p else none
theorem follow_cx {w W:World} (hW:Below w.heap.size w W) {a la:Option Addr} {n cap ln lcap:Nat} {ok:Bool} {fc:Nat→List Ch} {cl:List Ch} (hC:Cx w a la n cap ln lcap ok fc cl) {g:Nat} {xs:List (Pt × List Int)} (hX:PsAt W g xs) (hk:xs.length≤10) (hk0:0<xs.length) :
  Calls Tryz.prog 207 #[.slice a n cap,.slice la ln lcap,.slice (some ⟨g,0,none⟩) xs.length xs.length] W fun e w'=>((∃ v ys,e=.returned (.tuple #[v,.int .i64 0])∧FoIs w W w' v xs fc cl ys∧ok=true)∨e=.returned (.tuple #[.slice none 0 0,.int .i64 2])∧∃ x p,(x,p)∈xs∧wyX ok fc cl x.l p=none)∧Below W.heap.size W w':=by
 cases hok:ok with
 | true =>
  have h1:=hC.all W hW
  rw [hok] at h1
  refine (follow_yes hW h1 (hC.sf hok) (hC.lf hok) hX hk).mono fun e w' k=>⟨?_,k.2⟩
  rcases k.1 with ⟨v,ys,h2,h3⟩|⟨h2,x,p,h3,h4⟩
  ·exact .inl ⟨v,ys,h2,h3,rfl⟩
  ·exact .inr ⟨h2,x,p,h3,h4⟩
 | false =>
  have h1:=hC.all W hW
  rw [hok] at h1
  refine (follow_no h1).mono fun e w' k=>⟨.inr ⟨k.1,?_⟩,k.2⟩
  obtain ⟨⟨x,p⟩,hx⟩:∃ x,x∈xs:=List.exists_mem_of_length_pos hk0
  exact ⟨x,p,hx,rfl⟩
theorem ps_one {W:World} {x:Pt} {p:List Int} (h:PAt W x p):PsAt ((W.alloc x.o).alloc x.o) (W.heap.size+1) [(x,p)] where
 lt:=by simp
 cells:=fun i x' p' hi=>by
  have hi0:i=0:=by
   have:=(List.getElem?_eq_some_iff.1 hi).1
   simp at this
   omega
  subst hi0
  simp at hi
  obtain ⟨rfl,rfl⟩:=hi
  have hA:=(at_snd W x.o x.o).pl
  exact ⟨hA.1,hA.2,h.bel (belA (belA bR))⟩
theorem follow_one {w W:World} (hW:Below w.heap.size w W) {a la:Option Addr} {n cap ln lcap:Nat} {ok:Bool} {fc:Nat→List Ch} {cl:List Ch} (hC:Cx w a la n cap ln lcap ok fc cl) {x:Pt} {p:List Int} {g:Nat} (hX:PsAt W g [(x,p)]) :
  Calls Tryz.prog 207 #[.slice a n cap,.slice la ln lcap,.slice (some ⟨g,0,none⟩) 1 1] W fun e w'=>(match wyX ok fc cl x.l p with
   | some z=>∃ g2 cap2 y,e=.returned (.tuple #[.slice (some ⟨g2,0,none⟩) 1 cap2,.int .i64 0])∧C5 w' g2 0 y.f∧w'.cell? ⟨g2,5,none⟩=some (.slice y.ga y.gn y.gcap)∧WayIs w W w' y z.1 z.2
   | none=>e=.returned (.tuple #[.slice none 0 0,.int .i64 2]))∧Below W.heap.size W w':=by
 refine (follow_cx hW hC hX (by simp) (by simp)).mono fun e w' k=>⟨?_,k.2⟩
 rcases k.1 with ⟨v,ys,h2,h3,hok⟩|⟨h2,x',p',h3,h4⟩
 ·obtain ⟨y,c,gs,g1,g2,g3⟩:=h3.way 0 x p rfl
  have e1:wyX ok fc cl x.l p=some (c,gs):=by unfold wyX;rw [if_pos hok];exact g2
  rw [e1]
  have hl:ys.length=1:=h3.len
  have hrow:=h3.row
  rw [hl] at hrow
  rcases hrow.2 with ⟨e0,h0⟩|⟨gg,cap2,cur,rfl,-⟩
  ·omega
  ·have hcell:∀ k u,(c6 y)[k]?=some u→w'.cell? ⟨gg,k,none⟩=some u∧gg<w'.heap.size:=fun k u hu=>by
    refine own_cell hrow ?_
    have:=wCells_at ys 0 y g1 k (by have:=(List.getElem?_eq_some_iff.1 hu).1;simp [c6] at this;omega)
    rw [Nat.zero_mul,Nat.zero_add] at this
    rw [this,hu]
   exact ⟨gg,cap2,y,h2,⟨(hcell 0 _ rfl).2,(hcell 0 _ rfl).1,(hcell 1 _ rfl).1,(hcell 2 _ rfl).1,(hcell 3 _ rfl).1,(hcell 4 _ rfl).1⟩,(hcell 5 _ rfl).1,g3⟩
 ·simp at h3
  obtain ⟨rfl,rfl⟩:=h3
  rw [h4]
  exact h2
theorem May_any {w W:World} (hW:Below w.heap.size w W) {a la:Option Addr} {n cap ln lcap:Nat} {ok:Bool} {fc:Nat→List Ch} {cl:List Ch} (hC:Cx w a la n cap ln lcap ok fc cl) {x:Pt} {p:List Int} (hP:PAt W x p) (b:Bool) (hb:b=(wyX ok fc cl x.l p).isSome) :
  Calls Tryz.prog 183 #[.slice a n cap,.slice la ln lcap,x.v] W fun e w'=>e=.returned (.bool b)∧Below W.heap.size W w':=by
 have C:Hid (Calls Tryz.prog 207 #[.slice a n cap,.slice la ln lcap,.slice (some ⟨W.heap.size+1,0,none⟩) 1 1] ((W.alloc x.o).alloc x.o) fun e w'=>(∃ v er,e=.returned (.tuple #[v,.int .i64 er])∧b=decide (er=0))∧Below W.heap.size W w'):=by
  refine (follow_one (jB hW bel2) hC (ps_one hP)).mono fun e w' k=>⟨?_,below2 k.2⟩
  have k1:=k.1
  cases hz:wyX ok fc cl x.l p with
  | some z =>
   rw [hz] at k1 hb
   obtain ⟨g2,cap2,y,h1,-⟩:=k1
   exact ⟨_,0,h1,hb⟩
  | none =>
   rw [hz] at k1 hb
   exact ⟨_,2,k1,hb⟩
 obtain ⟨l,pa,m,pcap⟩:=x
 show Calls Tryz.prog 183 #[.slice a n cap,.slice la ln lcap,plV l pa m pcap] W _
 clear hC hP hb
 go_enter Tryz.func183,Tryz.ntmps183
 go_wp2_with (go_at_call 207;refine C.out.mono ?_;rintro e w1 ⟨⟨v,er,rfl,hbb⟩,hb1⟩;have HE:=jH hbb;clear hbb)
 go_ret
 exact ⟨ret_bool HE.out.symm,hb1⟩
end Go.Proofs.YtmjenlogbkbgnaaGreatDoor
