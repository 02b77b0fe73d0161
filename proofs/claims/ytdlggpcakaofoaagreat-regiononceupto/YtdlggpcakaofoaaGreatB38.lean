import Derived.Test.YtdlggpcakaofoaaGreatB37
namespace Go.Proofs.YtdlggpcakaofoaaGreat
open Go.RowKit Go.Shelf
set_option linter.unusedVariables false
set_option linter.unusedSimpArgs false
set_option maxRecDepth 100000
set_option maxHeartbeats 1000000
def zP:Pt:=⟨0,none,0,0⟩
def zO:Ov:=⟨0,0,zP⟩
def hv0:Pv:=⟨4,⟨2,none,0,0⟩,zO,zO,none,0,0,ByteArray.empty,⟨1,none,0,0⟩,true,0,0,1,0,0⟩
def hv1:Pv:=⟨1,⟨1,none,0,0⟩,⟨1,2,zP⟩,zO,none,0,0,ByteArray.empty,zP,false,0,0,2,0,0⟩
def hv2 (bq:Nat):Pv:=⟨1,⟨2,some ⟨bq,0,none⟩,1,1⟩,⟨1,3,zP⟩,zO,none,0,0,ByteArray.empty,zP,false,0,0,3,0,0⟩
def hv3:Pv:=⟨14,zP,zO,zO,none,0,0,ByteArray.empty,zP,false,0,0,0,0,0⟩
def zQ:Plc:=⟨0,[]⟩
def zD:Opd:=⟨0,0,zQ⟩
def hp0:Pnt:=⟨4,⟨2,[]⟩,zD,zD,[],[],⟨1,[]⟩,true,0,0,1,0,0⟩
def hp1:Pnt:=⟨1,⟨1,[]⟩,⟨1,2,zQ⟩,zD,[],[],zQ,false,0,0,2,0,0⟩
def hp2:Pnt:=⟨1,⟨2,[-1]⟩,⟨1,3,zQ⟩,zD,[],[],zQ,false,0,0,3,0,0⟩
def hp3:Pnt:=⟨14,zQ,zD,zD,[],[],zQ,false,0,0,0,0,0⟩
def hcl:List Ch:=[.leaf 1 0,.leaf 1 0,.ref true (-1) (.leaf 1 0)]
def hG:Grp:=⟨ByteArray.empty,0,[],0,hcl.map Ch.ty,[ByteArray.empty,ByteArray.empty,ByteArray.empty],[hp0,hp1,hp2,hp3]⟩
structure HandAt (W:World) (bu bl br bn bp bq:Nat):Prop where
 u:At W bu (.cells #[.string ByteArray.empty,.int .i64 0,.slice none 0 0,.int .i64 0,.slice (some ⟨bl,0,none⟩) 3 3,.slice (some ⟨bn,0,none⟩) 3 3,.slice (some ⟨bp,0,none⟩) 4 4] 70)
 l:At W bl (.cells #[.int .u8 1,.bool false,.int .i64 0,.int .i64 0,.slice none 0 0,.int .u8 1,.bool false,.int .i64 0,.int .i64 0,.slice none 0 0,.int .u8 4,.bool true,.int .i64 (-1),.int .i64 0,.slice (some ⟨br,0,none⟩) 1 1] 46)
 r:At W br (Fv.o ⟨1,false,0,0,none,0,0⟩)
 p:At W bp (.cells (pC hv0++pC hv1++pC (hv2 bq)++pC hv3).toArray 65)
 q:At W bq (.cells #[.int .i64 (-1)] 123)
theorem HandAt.bel {W W':World} {bu bl br bn bp bq:Nat} (h:HandAt W bu bl br bn bp bq) (k:Below W.heap.size W W'):HandAt W' bu bl br bn bp bq:=⟨h.u.below k,h.l.below k,h.r.below k,h.p.below k,h.q.below k⟩
theorem at_rng {W:World} {b:Nat} {l:List Value} {t:TypeId} (h:At W b (.cells l.toArray t)) (o:Nat) (m:List Value) (hm:∀ j v,m[j]?=some v→l[o+j]?=some v):W.rangeAt b o m:=fun j v hv=>by
 unfold At at h
 rw [cell_of_row _ _ _ _ _ _ h]
 simpa using hm j v hv
theorem zP_at (W:World) (l:Int) (h0:-9223372036854775808≤l) (h1:l≤9223372036854775807):PAt W ⟨l,none,0,0⟩ []:=⟨⟨rfl,Nat.le_refl _,Nat.zero_le _,fun h=>absurd rfl h,fun x hx=>by simp at hx,fun _=>rfl⟩,h0,h1⟩
theorem zO_at (W:World) (k:Nat) (n:Int):OAt W ⟨k,n,zP⟩ ⟨k,n,zQ⟩:=⟨rfl,rfl,rfl,zP_at W 0 (by omega) (by omega)⟩
theorem sg_nil:ByteArray.empty.toList=[]:=by simp [ByteArray.toList,ByteArray.toList.loop]
theorem OL_nil (W:World):OL W none 0 0 []:=⟨rfl,by omega,fun _=>rfl,fun h=>absurd rfl h⟩
theorem hand_points {W:World} {bu bl br bn bp bq:Nat} (h:HandAt W bu bl br bn bp bq):PsL W (some ⟨bp,0,none⟩) 4 4 [hp0,hp1,hp2,hp3]:=⟨rfl,fun i p hi=>by
 have hlt:=h.p.lt
 match i,hi with
 | 0,hi =>
  simp at hi;subst hi
  refine ⟨bp,0,hv0,rfl,hlt,at_rng h.p _ _ (fun j v hj=>?_),⟨rfl,zP_at W 2 (by omega) (by omega),rfl,zO_at W 0 0,zO_at W 0 0,OL_nil W,sg_nil,zP_at W 1 (by omega) (by omega),rfl,rfl,rfl,rfl,rfl,rfl,rfl⟩⟩
  rw [List.append_assoc,List.append_assoc,Nat.zero_mul,Nat.zero_add,List.getElem?_append_left (List.getElem?_eq_some_iff.1 hj).1];exact hj
 | 1,hi =>
  simp at hi;subst hi
  refine ⟨bp,0,hv1,rfl,hlt,at_rng h.p _ _ (fun j v hj=>?_),⟨rfl,zP_at W 1 (by omega) (by omega),rfl,zO_at W 1 2,zO_at W 0 0,OL_nil W,sg_nil,zP_at W 0 (by omega) (by omega),rfl,rfl,rfl,rfl,rfl,rfl,rfl⟩⟩
  rw [List.append_assoc,List.append_assoc,List.getElem?_append_right (by show 21≤_;omega),List.getElem?_append_left (by have:=(List.getElem?_eq_some_iff.1 hj).1;show 0+1*21+j - 21<21;have h21:(pC hv1).length=21:=rfl;omega)]
  rw [show 0+1*21+j - (pC hv0).length=j from by show 0+1*21+j - 21=j;omega];exact hj
 | 2,hi =>
  simp at hi;subst hi
  refine ⟨bp,0,hv2 bq,rfl,hlt,at_rng h.p _ _ (fun j v hj=>?_),⟨rfl,⟨⟨rfl,Nat.le_refl _,by show 1≤maxLen;unfold maxLen;omega,fun _=>⟨bq,0,rfl,h.q.lt,fun i x hx=>?_⟩,fun x hx=>by simp [hp2] at hx;omega,fun e=>by cases e⟩,by show (-9223372036854775808:Int)≤2;omega,by show (2:Int)≤9223372036854775807;omega⟩,rfl,zO_at W 1 3,zO_at W 0 0,OL_nil W,sg_nil,zP_at W 0 (by omega) (by omega),rfl,rfl,rfl,rfl,rfl,rfl,rfl⟩⟩
  ·rw [List.append_assoc,List.getElem?_append_right (by show 42≤_;omega),List.getElem?_append_left (by have:=(List.getElem?_eq_some_iff.1 hj).1;show 0+2*21+j - 42<21;have h21:(pC (hv2 bq)).length=21:=rfl;omega)]
   rw [show 0+2*21+j - (pC hv0++pC hv1).length=j from by show 0+2*21+j - 42=j;omega];exact hj
  ·have hq:=h.q
   unfold At at hq
   match i,hx with
   | 0,hx=>simp [hp2] at hx;subst hx;simp [World.cell?,hq]
   | i+1,hx=>simp [hp2] at hx
 | 3,hi =>
  simp at hi;subst hi
  refine ⟨bp,0,hv3,rfl,hlt,at_rng h.p _ _ (fun j v hj=>?_),⟨rfl,zP_at W 0 (by omega) (by omega),rfl,zO_at W 0 0,zO_at W 0 0,OL_nil W,sg_nil,zP_at W 0 (by omega) (by omega),rfl,rfl,rfl,rfl,rfl,rfl,rfl⟩⟩
  rw [List.getElem?_append_right (by show 63≤_;omega)]
  rw [show 0+3*21+j - (pC hv0++pC hv1++pC (hv2 bq)).length=j from by show 0+3*21+j - 63=j;omega];exact hj
 | i+4,hi=>simp at hi⟩
theorem hand_locals {W:World} {bu bl br bn bp bq:Nat} (h:HandAt W bu bl br bn bp bq):LcAt W (some ⟨bl,0,none⟩) 3 3 (hcl.map Ch.ty):=⟨rfl,by unfold maxLen;omega,fun _=>⟨bl,0,rfl,fun i t hi=>by
 have hl:=h.l
 have hlt:=hl.lt
 unfold At at hl
 match i,hi with
 | 0,hi =>
  simp [hcl] at hi;subst hi
  exact ⟨⟨1,false,0,0,none,0,0⟩,⟨hlt,by simp [World.cell?,hl],by simp [World.cell?,hl],by simp [World.cell?,hl],by simp [World.cell?,hl],by simp [World.cell?,hl]⟩,TyAt.mkLeaf 1 0 (by omega) (by omega) (by omega) none 0⟩
 | 1,hi =>
  simp [hcl] at hi;subst hi
  exact ⟨⟨1,false,0,0,none,0,0⟩,⟨hlt,by simp [World.cell?,hl],by simp [World.cell?,hl],by simp [World.cell?,hl],by simp [World.cell?,hl],by simp [World.cell?,hl]⟩,TyAt.mkLeaf 1 0 (by omega) (by omega) (by omega) none 0⟩
 | 2,hi =>
  simp [hcl] at hi;subst hi
  exact ⟨⟨4,true,-1,0,some ⟨br,0,none⟩,1,1⟩,⟨hlt,by simp [World.cell?,hl],by simp [World.cell?,hl],by simp [World.cell?,hl],by simp [World.cell?,hl],by simp [World.cell?,hl]⟩,TyAt.mkOne 4 true (-1) 0 (by omega) (by omega) (by omega) (by omega) (by omega) br 0 1 ⟨1,false,0,0,none,0,0⟩ _ h.r.ty (TyAt.mkLeaf 1 0 (by omega) (by omega) (by omega) none 0)⟩
 | i+3,hi=>simp [hcl] at hi⟩⟩
theorem hand_unit {W:World} {bu bl br bn bp bq:Nat} (h:HandAt W bu bl br bn bp bq):UnAt W (some ⟨bu,0,none⟩) 1 [hG]:=⟨rfl,fun j g hj=>by
 match j,hj with
 | 0,hj =>
  simp at hj;subst hj
  refine ⟨bu,0,ByteArray.empty,0,none,0,0,0,some ⟨bl,0,none⟩,3,3,some ⟨bn,0,none⟩,3,3,some ⟨bp,0,none⟩,4,4,rfl,⟨h.u.lt,at_rng (l:=[.string ByteArray.empty,.int .i64 0,.slice none 0 0,.int .i64 0,.slice (some ⟨bl,0,none⟩) 3 3,.slice (some ⟨bn,0,none⟩) 3 3,.slice (some ⟨bp,0,none⟩) 4 4]) h.u _ _ (fun j v hj=>by simpa using hj)⟩,⟨rfl,rfl,⟨rfl,by omega,fun i o ho=>by simp [hG] at ho⟩,hand_locals h,by omega,rfl,hand_points h⟩⟩
 | j+1,hj=>simp at hj⟩
theorem hand_head:HdOk 0 true hG hcl where
 cnt:=by decide
 lo:=rfl
 ok:=fun c hc=>by
  simp [hcl] at hc
  rcases hc with rfl|rfl
  ·exact ⟨.inl ⟨.inl rfl,rfl⟩,⟨.inl ⟨.inl rfl,rfl⟩,by decide⟩⟩
  ·exact ⟨⟨by omega,.inl ⟨.inl rfl,rfl⟩⟩,⟨⟨by omega,.inl ⟨.inl rfl,rfl⟩⟩,by decide⟩⟩
 reg:=fun k c hk q hq=>by
  match k,hk with
  | 0,hk=>simp [hcl] at hk;subst hk;simp [Ch.regs] at hq
  | 1,hk=>simp [hcl] at hk;subst hk;simp [Ch.regs] at hq
  | 2,hk=>simp [hcl] at hk;subst hk;simp [Ch.regs] at hq;subst hq;exact ⟨by decide,.inr (by decide)⟩
  | k+3,hk=>simp [hcl] at hk
 out:=by decide
 loan:=by decide
 main:=fun _=>⟨rfl,rfl,fun c hc=>by simp [hcl] at hc;subst hc;rfl⟩
def hfc:Nat→List Ch:=fun _=>[]
theorem hand_ok (b1 b2 b3:Nat→Bool):UOk [] 0 (decide ((stRes 0 b1 b2 b3).2=0)) 1 0 [hG] where
 un:=by simp [unitB,stRes,fstB]
 hd:=fun j g hj=>by
  match j,hj with
  | 0,hj=>simp at hj;subst hj;exact ⟨hcl,hand_head⟩
  | j+1,hj=>simp at hj
 pt:=by
  refine ⟨hfc,[(0,hcl)],[(⟨hfc,hcl,dU [] 0,[(0,hcl)],4⟩,[hp0,hp1,hp2,hp3])],⟨⟨fun j hj=>by omega,fun j hj=>by omega,fun j hj=>rfl⟩,rfl,rfl,fun j g hj=>?_⟩,fun j x ps hj p hp=>?_⟩
  ·match j,hj with
   | 0,hj=>simp at hj;subst hj;exact ⟨hcl,hand_head,rfl,rfl⟩
   | j+1,hj=>simp at hj
  ·match j,hj with
   | 0,hj =>
    simp at hj
    obtain ⟨rfl,rfl⟩:=hj
    simp at hp
    rcases hp with rfl|rfl|rfl|rfl
    ·rfl
    ·rfl
    ·rfl
    ·rfl
   | j+1,hj=>simp at hj
theorem hand_st (W:World):StAt W none 0 0 []:=⟨rfl,Nat.zero_le _,fun h=>absurd rfl h⟩
theorem hand_cx (W:World):CxAll W none 0 0 hcl:=fun la ln lc hL=>by
 obtain ⟨b1,b2,b3,hb⟩:=flt_ex []
 obtain ⟨fc,cl,hC,hI⟩:=cx_of (hand_st W) hL hb
 have e:mayL 0 (decide ((stRes 0 b1 b2 b3).2=0)) (hcl.map Ch.ty)=true:=by
  rw [show (stRes 0 b1 b2 b3).2=0 from by simp [stRes,fstB]]
  decide
 have h1:=(hI e).1
 have h2:=map_ty_inj h1
 rw [e] at hC
 subst h2
 exact ⟨fc,hC⟩
theorem hand_ug {W:World} {bu bl br bn bp bq:Nat} (h:HandAt W bu bl br bn bp bq):UG1 W none (some ⟨bu,0,none⟩) 0 0 1 1 0 [hG] 0 hG hcl hfc:=by
 obtain ⟨b1,b2,b3,hb⟩:=flt_ex []
 obtain ⟨cl,h1,h2⟩:=rgIn_of (hand_unit h) (hand_ok b1 b2 b3) (j:=0) (g:=hG) rfl
 have e:cl=hcl:=h2.uniq hand_head
 subst e
 exact ⟨fun V hV=>mayU_any (w:=V) (n:=0) (cap:=0) (a:=none) (ua:=some ⟨bu,0,none⟩) (un:=1) 1 (mn:=0) (hand_st V) hb (hand_unit (h.bel hV)) rfl true ⟨fun _=>hand_ok b1 b2 b3,fun _=>rfl⟩,h1,rfl⟩
theorem Tryz.results70:Tryz.f70.results=#[.cell 0 46]:=rfl
theorem Tryz.results71:Tryz.f71.results=#[.cell 2 46]:=rfl
theorem Tryz.results72:Tryz.f72.results=#[.cell 2 62]:=rfl
theorem Tryz.results38:Tryz.f38.results=#[.cell 0 25]:=rfl
theorem i64_any (w:World):Calls Tryz.prog 70 #[] w fun e w'=>e=.returned (tyV 1 false 0 0 none 0 0)∧Below w.heap.size w w':=by
 go_enter Tryz.func70,Tryz.ntmps70
 go_wp2_with fail
 exact bodyPost_ret (results_c1 (g:=⟨1,false,0,0,none,0,0⟩) Tryz.results70 rfl (At.new w (Fv.o ⟨1,false,0,0,none,0,0⟩)).ty) rfl ⟨rfl,belA bR⟩
theorem ref_any (w:World) (m:Bool):Calls Tryz.prog 71 #[.bool m] w fun e w'=>∃ br,e=.returned (tyV 4 m (-1) 0 (some ⟨br,0,none⟩) 1 1)∧At w' br (Fv.o ⟨1,false,0,0,none,0,0⟩)∧w.heap.size≤br∧Below w.heap.size w w':=by
 have C:=jH (i64_any (w.alloc zT.o))
 have A2:=jH (At.new w zT.o)
 go_enter Tryz.func71,Tryz.ntmps71
 go_wp2_with (go_at_call 70;refine C.out.mono ?_;rintro e w1 ⟨rfl,hb1⟩;have HB1:=jH hb1;have B4:=A2.out.below hb1;have g0:=B4.tyF 0;have g1:=B4.tyF 1;have g2:=B4.tyF 2;have g3:=B4.tyF 3;have g4:=B4.tyF 4;obtain ⟨hl4,q0,q1,q2,q3,q4⟩:=B4.ty;simp only [Nat.zero_add] at q0 q1 q2 q3 q4;clear hb1)
 have hB:Below w.heap.size w w1:=below1 HB1.out
 have F1:C5 ((S5 w1 w.heap.size ⟨4,m,-1,0,some ⟨w1.heap.size,0,none⟩,1,1⟩).alloc (Fv.o ⟨1,false,0,0,none,0,0⟩)) w.heap.size 0 ⟨4,m,-1,0,some ⟨w1.heap.size,0,none⟩,1,1⟩:=((B4.set5 _).alloc _).ty
 have F2:At ((S5 w1 w.heap.size ⟨4,m,-1,0,some ⟨w1.heap.size,0,none⟩,1,1⟩).alloc (Fv.o ⟨1,false,0,0,none,0,0⟩)) w1.heap.size (Fv.o ⟨1,false,0,0,none,0,0⟩):=by
  have:=At.new (S5 w1 w.heap.size ⟨4,m,-1,0,some ⟨w1.heap.size,0,none⟩,1,1⟩) (Fv.o ⟨1,false,0,0,none,0,0⟩)
  rw [size_S5] at this
  exact this
 have F3:Below w.heap.size w ((S5 w1 w.heap.size ⟨4,m,-1,0,some ⟨w1.heap.size,0,none⟩,1,1⟩).alloc (Fv.o ⟨1,false,0,0,none,0,0⟩)):=belA (below_s5 hB (Nat.le_refl _) _)
 have hz:=hB.size
 change bodyPost _ _ _ _ _ ((S5 w1 w.heap.size ⟨4,m,-1,0,some ⟨w1.heap.size,0,none⟩,1,1⟩).alloc (Fv.o ⟨1,false,0,0,none,0,0⟩))
 generalize ((S5 w1 w.heap.size ⟨4,m,-1,0,some ⟨w1.heap.size,0,none⟩,1,1⟩).alloc (Fv.o ⟨1,false,0,0,none,0,0⟩))=W9 at F1 F2 F3 ⊢
 exact bodyPost_ret (results_c1 (g:=⟨4,m,-1,0,some ⟨w1.heap.size,0,none⟩,1,1⟩) Tryz.results71 rfl F1) rfl ⟨w1.heap.size,rfl,F2,hz,F3⟩
theorem results_o1 {fn:Func} {i:Nat} (h:fn.results=#[.cell i 62]) {tmps:Array Value} {W:World} {b4 k m cap:Nat} {n l:Int} {a:Option Addr} (ht:tmps.getD i undef=.pointer (some ⟨b4,0,none⟩)) (hC:At W b4 (oO k n l a m cap)):(results fn tmps).run Tryz.prog W=.ok (oV k n l a m cap) W:=by
 unfold At at hC
 have ht2:tmps[i]?.getD undef=.pointer (some ⟨b4,0,none⟩):=by rw [← ht];simp
 have e0:W.cell? ⟨b4,0,none⟩=some (.int .u8 (k:Int)):=by simp [World.cell?,hC]
 have e1:W.cell? ⟨b4,1,none⟩=some (.int .i64 n):=by simp [World.cell?,hC]
 have e2:W.cell? ⟨b4,2,none⟩=some (.int .i64 l):=by simp [World.cell?,hC]
 have e3:W.cell? ⟨b4,3,none⟩=some (.slice a m cap):=by simp [World.cell?,hC]
 simp only [results,h]
 simp [go_sem,ht2,e0,e1,e2,e3]
theorem con_any (w:World) (n:Int):Calls Tryz.prog 72 #[.int .i64 n] w fun e w'=>e=.returned (.agg #[.int .u8 1,.int .i64 n,.int .i64 0,.slice none 0 0])∧Below w.heap.size w w':=by
 go_enter Tryz.func72,Tryz.ntmps72
 go_wp2_with fail
 exact bodyPost_ret (results_o1 Tryz.results72 rfl (At.new w (oO 1 n 0 none 0 0))) rfl ⟨rfl,belA bR⟩
theorem wp_val {o:Oper} {a:Act} {w w':World} {K:Act→World→Prop} {Q:Exit→Act→World→Prop} {v:Value} (hr:(execOp a.eval o).run Tryz.prog w=.ok (.value v) w') (h:K (a.put o.dst v) w'):Oper.wp Tryz.prog o a w K Q:=by
 unfold Oper.wp
 rw [hr]
 exact h
end Go.Proofs.YtdlggpcakaofoaaGreat
