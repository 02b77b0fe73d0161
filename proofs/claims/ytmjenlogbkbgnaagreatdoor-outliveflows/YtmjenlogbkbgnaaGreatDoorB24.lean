import Derived.Test.YtmjenlogbkbgnaaGreatDoorB23
import Derived.Test.YtmjenlogbkbgnaaGreatDoorC16
import Derived.Scope
namespace Go.Proofs.YtmjenlogbkbgnaaGreatDoor
open Go.RowKit Go.Shelf
set_option linter.unusedVariables false
set_option linter.unusedSimpArgs false
set_option maxRecDepth 100000
set_option maxHeartbeats 16000000
structure UG (w:World) (a:Option Addr) (n cap:Nat) (ua:Option Addr) (un:Nat) (dr:Nat→Bool) (xs:List (Sc × List Pnt)):Prop where
 len:xs.length=un
 le:un≤32
 at_:∀ (j:Nat) (x:Sc) (ps:List Pnt),xs[j]?=some (x,ps)→∃ ug uo nm lv oa on oc pa la ln lc na nn nc qa qn qc,ua=some ⟨ug,uo,none⟩∧C7 w ug (uo+j*7) nm lv oa on oc pa la ln lc na nn nc qa qn qc∧SX w a n cap la ln lc x∧UF w ua un x.hs∧x.dr=dr∧x.np=qn∧PsL w qa qn qc ps∧qn≤1024
def PfIs (xs:List (Sc × List Pnt)):Option (Nat × Nat)→Prop
 | none=>∀ (j:Nat) (x:Sc) (ps:List Pnt),xs[j]?=some (x,ps)→∀ p∈ps,x.ptB p=true
 | some (j,q)=>(∃ x ps p,xs[j]?=some (x,ps)∧ps[q]?=some p∧x.ptB p=false∧∀ (q':Nat) (p':Pnt),q'<q→ps[q']?=some p'→x.ptB p'=true)∧∀ (j':Nat) (x:Sc) (ps:List Pnt),j'<j→xs[j']?=some (x,ps)→∀ p∈ps,x.ptB p=true
def pfV:Option (Nat × Nat)→Value
 | none=>.tuple #[.int .i64 0,.int .i64 0,.bool false]
 | some (j,q)=>.tuple #[.int .i64 (j:Int),.int .i64 (q:Int),.bool true]
structure PO (w V:World) (b5:Nat) (a:Option Addr) (n cap:Nat) (ua:Option Addr) (un ucap:Nat) (mn:Int) (dr:Nat→Bool):Prop where
 un:At V w.heap.size (uO a n cap ua un ucap mn)
 dr:Arr V b5 231 (bV dr)
 bel:Below w.heap.size w V
 l5:w.heap.size<b5
theorem PO.aft {w V V':World} {b5:Nat} {a:Option Addr} {n cap:Nat} {ua:Option Addr} {un ucap:Nat} {mn:Int} {dr:Nat→Bool} (h:PO w V b5 a n cap ua un ucap mn dr) (hb:Below V.heap.size V V'):PO w V' b5 a n cap ua un ucap mn dr:=⟨h.un.below hb,At.below h.dr hb,jB h.bel hb,h.l5⟩
theorem PO.but {w V V':World} {b b5:Nat} {a:Option Addr} {n cap:Nat} {ua:Option Addr} {un ucap:Nat} {mn:Int} {dr:Nat→Bool} (h:PO w V b5 a n cap ua un ucap mn dr) (hb:But b V V') (h1:b5<b):PO w V' b5 a n cap ua un ucap mn dr:=by
 have:=h.l5
 exact ⟨h.un.grown hb (by simp;omega),At.grown h.dr hb (by simp;omega),belBut h.bel hb (by omega) h.bel.size,h.l5⟩
theorem C7.but {w w':World} {g o b:Nat} {nm:ByteArray} {lv:Int} {oa:Option Addr} {on oc:Nat} {pa:Int} {la:Option Addr} {ln lc:Nat} {na:Option Addr} {nn nc:Nat} {qa:Option Addr} {qn qc:Nat} (h:C7 w g o nm lv oa on oc pa la ln lc na nn nc qa qn qc) (hb:But b w w') (hn:g≠b):C7 w' g o nm lv oa on oc pa la ln lc na nn nc qa qn qc:=by
 have hblk:w'.heap[g]?=w.heap[g]?:=hb.block g h.1 (by simp;omega)
 refine ⟨Nat.lt_of_lt_of_le h.1 hb.size,fun j v hv=>?_⟩
 have:=h.2 j v hv
 unfold World.cell? at this ⊢
 simp only [hblk]
 exact this
theorem Arr.zero127 (W:World):Arr (W.alloc (.cells #[.bool false,.bool false,.bool false,.bool false,.bool false,.bool false,.bool false,.bool false,.bool false,.bool false,.bool false,.bool false,.bool false,.bool false,.bool false,.bool false,.bool false,.bool false,.bool false,.bool false,.bool false,.bool false,.bool false,.bool false,.bool false,.bool false,.bool false,.bool false,.bool false,.bool false,.bool false,.bool false] 231 (0,0))) W.heap.size 231 (bV fun _=>false):=by
 have h:=At.new W (.cells (arr (bV fun _=>false)) 231 (0,0))
 show At _ _ (.cells (arr (bV fun _=>false)) 231 (0,0))
 rw [arr_false] at h ⊢
 exact h
theorem idx5_0 (W:World):(Instr.index 251 (.agg #[fnV 174,fnV 175,fnV 176,fnV 177,fnV 178]) (.int .i64 0)).run Tryz.prog W=.ok (fnV 174) W:=by kernel_rfl
theorem idx5_1 (W:World):(Instr.index 251 (.agg #[fnV 174,fnV 175,fnV 176,fnV 177,fnV 178]) (.int .i64 1)).run Tryz.prog W=.ok (fnV 175) W:=by kernel_rfl
theorem idx5_2 (W:World):(Instr.index 251 (.agg #[fnV 174,fnV 175,fnV 176,fnV 177,fnV 178]) (.int .i64 2)).run Tryz.prog W=.ok (fnV 176) W:=by kernel_rfl
theorem idx5_3 (W:World):(Instr.index 251 (.agg #[fnV 174,fnV 175,fnV 176,fnV 177,fnV 178]) (.int .i64 3)).run Tryz.prog W=.ok (fnV 177) W:=by kernel_rfl
theorem idx5_4 (W:World):(Instr.index 251 (.agg #[fnV 174,fnV 175,fnV 176,fnV 177,fnV 178]) (.int .i64 4)).run Tryz.prog W=.ok (fnV 178) W:=by kernel_rfl
structure PX (w V:World) (b5 bs:Nat) (a:Option Addr) (n cap:Nat) (ua:Option Addr) (un ucap:Nat) (mn:Int) (dr:Nat→Bool):Prop where
 po:PO w V b5 a n cap ua un ucap mn dr
 th:V.there bs 0 78
 lt:bs<V.heap.size
theorem PX.aft {w V V':World} {b5 bs:Nat} {a:Option Addr} {n cap:Nat} {ua:Option Addr} {un ucap:Nat} {mn:Int} {dr:Nat→Bool} (h:PX w V b5 bs a n cap ua un ucap mn dr) (hb:Below V.heap.size V V'):PX w V' b5 bs a n cap ua un ucap mn dr:=⟨h.po.aft hb,there_bel h.lt hb h.th,Nat.lt_of_lt_of_le h.lt hb.size⟩
theorem PX.but {w V V':World} {b b5 bs:Nat} {a:Option Addr} {n cap:Nat} {ua:Option Addr} {un ucap:Nat} {mn:Int} {dr:Nat→Bool} (h:PX w V b5 bs a n cap ua un ucap mn dr) (hb:But b V V') (h1:b5<b) (h2:bs<b):PX w V' b5 bs a n cap ua un ucap mn dr:=⟨h.po.but hb h1,fun j hj=>by
  have hblk:V'.heap[bs]?=V.heap[bs]?:=hb.block bs h.lt (by simp;omega)
  have h1:=h.th j hj
  refine ⟨?_,?_⟩
  ·have h3:=h1.1
   unfold World.cell? at h3 ⊢
   simp only [hblk]
   exact h3
  ·have h3:=h1.2
   unfold World.frozen? at h3 ⊢
   simp only [hblk]
   exact h3,Nat.lt_of_lt_of_le h.lt hb.size⟩
theorem PX.own {w V V':World} {b5 bs:Nat} {a:Option Addr} {n cap:Nat} {ua:Option Addr} {un ucap:Nat} {mn:Int} {dr:Nat→Bool} (h:PX w V b5 bs a n cap ua un ucap mn dr) (hb:But bs V V') (h1:b5<bs) (ht:V'.there bs 0 78):PX w V' b5 bs a n cap ua un ucap mn dr:=⟨h.po.but hb h1,ht,Nat.lt_of_lt_of_le h.lt hb.size⟩
theorem run_alloc164 (w:World):∃ C:Array Value,C.size=78∧(Instr.alloc 248 true (.tuple #[])).run Tryz.prog w=.ok (.pointer (some ⟨w.heap.size,0,none⟩)) (w.alloc (.cells C 248 (0,0))):=by
 refine ⟨?_,?_,?h⟩
 case h=>exact rfl
 rfl
theorem wpl_alloc164 {w:World} {ops:Array Oper} {rest:List Oper} {a9:Act} {Q:Exit→Act→World→Prop} {d:Nat} {ty:TypeId} {pos:String} {after:Array Edge}
  (h:∀ w',w'.there w.heap.size 0 78→w.heap.size<w'.heap.size→Below w.heap.size w w'→wpList Tryz.prog ops Q rest (a9.put (some d) (.pointer (some ⟨w.heap.size,0,none⟩))) w'):wpList Tryz.prog ops Q (⟨some d,.alloc 248,ty,pos,after,none⟩::rest) a9 w:=by
 obtain ⟨C,hC,hr⟩:=run_alloc164 w
 refine wpList_plain rfl fun K hK=>?_
 unfold Oper.wp execOp
 simp only [Sem.run_bind,Sem.run_pure,Result.andThen_ok,hr]
 exact hK _ _ (h _ (there_new w C 248 78 hC) (by simp) (belA (Below.refl _ _)))
theorem stage_step18 {w0 V:World} (hB:Below w0.heap.size w0 V) {b:Nat} (hlo:w0.heap.size≤b) {s0:Scv} {x:Sc} {p:Pnt} (hb:ScB w0 s0 x p) (k:Nat) (hk:k<5) (h:Pst w0 V b s0 x p k) :
  ∃ r:Bool,Calls Tryz.prog (174+k) #[.pointer (some ⟨b,0,none⟩)] V fun e w'=>e=.returned (.bool r)∧But b V w'∧(r=true→Pst w0 w' b s0 x p (k+1)∧w'.there b 0 78)∧(r=false→x.ptB p=false):=by
 have hpt:=hb.pt
 match k,hk,h with
 | 0,_,h =>
  have hs:ScS V b s0:=h
  refine ⟨restB p && decide (0≤p.pos),(fieldsMay_any s0.pv.op s0.pv.tp.l s0.pv.tp.a s0.pv.tp.n s0.pv.tp.cap s0.pv.a.k s0.pv.a.n s0.pv.a.x.l s0.pv.a.x.a s0.pv.a.x.n s0.pv.a.x.cap s0.pv.b.k s0.pv.b.n s0.pv.b.x.l s0.pv.b.x.a s0.pv.b.x.n s0.pv.b.x.cap s0.pv.ra s0.pv.rn s0.pv.rc s0.pv.sg s0.pv.fp.l s0.pv.fp.a s0.pv.fp.n s0.pv.fp.cap s0.pv.mu s0.pv.fn s0.pv.st s0.pv.nx s0.pv.el s0.pv.ps V b hs.pt _ rfl _ (rest_is hpt).symm).mono fun e w' k=>⟨k.1,But.below k.2,fun e=>⟨⟨hs.bel k.2,e⟩,(hs.bel k.2).th⟩,fun e=>?_⟩⟩
  unfold Sc.ptB;rw [e];rfl
 | 1,_,h =>
  obtain ⟨hs,h1⟩:=h
  refine ⟨goesB x.np p,(goesOn_any V b s0.pv.op s0.pv.nx s0.pv.el s0.qa s0.qn s0.qc hs.c30 hs.pt.2.1 hs.pt.2.2.2.2.2.2.2.2.2.2.2.2.2.2.2.2.2.2.2.1 hs.pt.2.2.2.2.2.2.2.2.2.2.2.2.2.2.2.2.2.2.2.2.1 _ (by unfold goesB;rw [hb.np,hpt.op,hpt.nx,hpt.el])).mono fun e w' k=>⟨k.1,by rw [k.2];exact But.refl _ _,fun e=>by rw [k.2];exact ⟨⟨hs,h1,e⟩,hs.th⟩,fun e=>?_⟩⟩
  unfold Sc.ptB;rw [h1,e];rfl
 | 2,_,h =>
  obtain ⟨hs,h1,h2⟩:=h
  refine ⟨x.toB p && x.frB p,(places_any hB b s0 hs hlo hb.sx p.to p.fr hpt.tp hpt.tl hpt.fp hpt.fl hb.tw hb.fw _ _ rfl rfl _ ?_).mono fun e w' k=>⟨k.1,k.2.1,fun e=>⟨⟨?_,h1,h2,e⟩,?_⟩,fun e=>?_⟩⟩
  ·rw [hpt.op]
   unfold Sc.toB Sc.frB shrB
   cases x.way p.to <;> rfl
  ·have h3:=k.2.2 e
   rw [hpt.op] at h3
   exact h3
  ·obtain ⟨tw,fw,h3,-⟩:=k.2.2 e
   exact h3.th
  ·unfold Sc.ptB;rw [h1,h2,e];rfl
 | 3,_,h =>
  obtain ⟨⟨tw,fw,hs,hw1,hw2⟩,h1,h2,h3⟩:=h
  have C:=operandsMay_any hB b { s0 with tw:=tw,fw:=fw } hs hb.sx p.a p.b p.args hpt.a hpt.b hpt.ar
  have eo:opsL s0.pv.op p.a p.b p.args=opsOf p:=by rw [hpt.op];rfl
  simp only at C
  rw [eo] at C
  cases hO:x.opsT (opsOf p) with
  | none =>
   rw [hO] at C
   refine ⟨false,C.mono fun e w' k=>⟨k.1,k.2,(fun e=>by cases e),fun e=>?_⟩⟩
   unfold Sc.ptB;rw [hO,Bool.and_false]
  | some os =>
   rw [hO] at C
   refine ⟨true,C.mono fun e w' k=>⟨k.1.1,k.2,fun e=>?_,(fun e=>by cases e)⟩⟩
   obtain ⟨ta,tn,tc,fs,k1,k2⟩:=k.1.2
   exact ⟨⟨⟨tw,fw,ta,tn,tc,V.heap.size,os,fs,k1,hw1,hw2,k2,hO⟩,h1,h2,h3⟩,k1.th⟩
 | 4,_,h =>
  obtain ⟨⟨tw,fw,ta,tn,tc,B,os,fs,hs,hw1,hw2,hTL,hO⟩,h1,h2,h3⟩:=h
  have h4:=h3
  rw [Bool.and_eq_true] at h4
  have A:OpA w0 V B b { s0 with tw:=tw,fw:=fw,ta:=ta,tn:=tn,tc:=tc } x p os fs:=⟨hB,hs,hb.sx,hb.uf,hb.dr,hpt.op,hpt.sg,hpt.mu,hpt.fn,hpt.st,hpt.fl,hpt.fp.row.len,hw1,hw2,hTL,hO,h4.1,h4.2⟩
  refine ⟨x.opB p (x.toW p) (x.frW p) os,(opMay_any A _ rfl).mono fun e w' k=>⟨k.1,But.below k.2,fun e=>?_,fun e=>?_⟩⟩
  ·exact ⟨by show x.ptB p=true;unfold Sc.ptB;rw [h1,h2,h3,hO];exact e,(hs.bel k.2).th⟩
  ·unfold Sc.ptB;rw [hO]
   show ((restB p && decide (0≤p.pos)) && goesB x.np p && (x.toB p && x.frB p) && x.opB p (x.toW p) (x.frW p) os)=false
   rw [e,Bool.and_false]
theorem pointFault_any (w:World) (a ua:Option Addr) (n cap un ucap:Nat) (mn:Int) (ss:List (List Ty)) (h:StAt w a n cap ss) (b1 b2 b3:Nat→Bool) (hb:Flt ss b1 b2 b3) (hok:(stRes n b1 b2 b3).2=0) (xs:List (Sc × List Pnt)) (hU:UG w a n cap ua un (dU ss n) xs) :
  Calls Tryz.prog 159 #[uV a n cap ua un ucap mn] w fun e w'=>(∃ R,e=.returned (pfV R)∧PfIs xs R)∧Below w.heap.size w w':=by
 have CD:Hid (Calls Tryz.prog 173 #[.slice a n cap] (w.alloc (uO a n cap ua un ucap mn)) fun e w'=>e=.returned (.agg (arr (bV (dU ss n))))∧Below (w.alloc (uO a n cap ua un ucap mn)).heap.size (w.alloc (uO a n cap ua un ucap mn)) w'):=dropsOf_any a n cap ss _ (h.bel (belA (Below.refl _ _))) b1 b2 b3 hb hok
 have HA0:Hid (At (w.alloc (uO a n cap ua un ucap mn)) w.heap.size (uO a n cap ua un ucap mn)):=At.new _ _
 obtain ⟨dr,hdr⟩:∃ dr,dr=dU ss n:=⟨_,rfl⟩
 rw [← hdr] at CD hU
 have HU:=jH hU
 have u0:(un:Int)≤32:=by have:=hU.le;omega
 clear h hb hok hdr hU
 go_enter Tryz.func159,Tryz.ntmps159
 go_wp2_with fail
 refine wp_scope_straight ?_
 go_wp2_with (first
  | (go_at_call 173;refine CD.out.mono ?_;rintro e w1 ⟨rfl,hb1⟩;have HA1:=jH (HA0.out.below hb1);have HB1:=jH (below1 hb1);have HS1:Hid (w.heap.size<w1.heap.size):=jH (by have:=hb1.size;simp at this;omega);clear hb1)
  | ((with_reducible show wpList _ _ _ (Oper.mk none (Op.store 231 _ _) _ _ _ none::_) _ _);refine wpl_storeA w1.heap.size (bV fun _=>false) dr (Arr.zero127 w1) rfl rfl ?_;intro w2 hA2 hB2;have HP:Hid (PO w w2 w1.heap.size a n cap ua un ucap mn dr):=jH ⟨(HA1.out.alloc _).grown hB2 (by have:=HS1.out;simp;omega),hA2,belBut (belA HB1.out) hB2 HB1.out.size (by have:=HB1.out.size;simp;omega),HS1.out⟩;clear hA2 hB2)
  | ((with_reducible show wpList _ _ _ (Oper.mk (some _) (Op.alloc 248) _ _ _ none::_) _ _);refine wpl_alloc164 ?_;intro w6 hT6 hL6 hB6;have HBB:Hid (w1.heap.size<w2.heap.size):=jH (At.lt HP.out.dr);replace HP:Hid (PX w w6 w1.heap.size w2.heap.size a n cap ua un ucap mn dr):=jH ⟨HP.out.aft hB6,hT6,hL6⟩;clear hT6 hL6 hB6))
 refine wp_label ?_
 obtain ⟨b5,hb5⟩:∃ b5,b5=w1.heap.size:=⟨_,rfl⟩
 obtain ⟨bs,hbs⟩:∃ bs,bs=w2.heap.size:=⟨_,rfl⟩
 have HB5:Hid (b5<bs∧w.heap.size≤bs):=jH (by rw [hb5,hbs];have h1:=At.lt HP.out.po.dr;exact ⟨HBB.out,by have:=HS1.out;have:=HBB.out;omega⟩)
 rw [← hb5,← hbs] at HP
 rw [← hb5,← hbs]
 clear HA1 HB1 HS1 hb5 hbs CD HA0 HBB
 obtain ⟨d0,d1,d2⟩:=HP.out.po.un.un
 go_wp2_with fail
 clear d0 d1 d2
 go_loopw [2,3,4,19] (fun v2 v3 v4 v V=>∃ j:Nat,j≤un∧v2=.int .i64 0∧v3=.int .i64 0∧v4=.bool false∧v=.int .i64 (j:Int)∧(∀ (j':Nat) (x:Sc) (ps:List Pnt),j'<j→xs[j']?=some (x,ps)→∀ p∈ps,x.ptB p=true)∧PX w V b5 bs a n cap ua un ucap mn dr) (fun _ _ _ v _=>un - (intOf v).toNat)
 case atStart=>exact ⟨0,Nat.zero_le _,rfl,rfl,rfl,rfl,fun j' x ps h=>by omega,HP.out⟩
 case round =>
  clear HP
  obtain ⟨j,hj,rfl,rfl,rfl,rfl,h1,hP⟩:=hrel
  have HJ1:=jH h1
  have HP:=jH hP
  clear h1 hP
  by_cases hlt:j<un
  ·obtain ⟨⟨x,ps⟩,hx⟩:∃ y,xs[j]?=some y:=⟨_,List.getElem?_eq_getElem (by rw [HU.out.len];exact hlt)⟩
   obtain ⟨ug,uo,nm,lv,oa,on,oc,pa,la,ln,lc,na,nn,nc,qa,qn,qc,ea,hC7,hSX,hUF,hdr,hnp,hPs,hqn⟩:=HU.out.at_ j x ps hx
   have ea2:ua=some ⟨ug,uo,none⟩:=ea
   subst ea2
   obtain ⟨g0,g1,g2,g3,g4,g5,g6⟩:=(hC7.bel HP.out.po.bel).cells
   have hug:=(hC7.bel HP.out.po.bel).1
   simp only [Nat.add_zero] at g0
   have HX:=jH hx
   have HSX:=jH hSX
   have HUF:=jH hUF
   have HDR:=jH hdr
   have HNP:=jH hnp
   have HPS:=jH hPs
   have j0:(0:Int)≤(j:Int):=by omega
   have j1:(j:Int)<(un:Int):=by omega
   have q0:(qn:Int)≤1024:=by omega
   have HLT:=jH hlt
   obtain ⟨b7,hb7⟩:∃ b7,b7=wr.heap.size:=⟨_,rfl⟩
   have HB7:Hid (bs<b7):=jH (by rw [hb7];exact HP.out.lt)
   have HP7:Hid (PX w (wr.alloc (.cells #[.string nm,.int .i64 lv,.slice oa on oc,.int .i64 pa,.slice la ln lc,.slice na nn nc,.slice qa qn qc] 73 (0,0))) b5 bs a n cap (some ⟨ug,uo,none⟩) un ucap mn dr):=jH (HP.out.aft (belA (Below.refl _ _)))
   have HG7:Hid (C7 (wr.alloc (.cells #[.string nm,.int .i64 lv,.slice oa on oc,.int .i64 pa,.slice la ln lc,.slice na nn nc,.slice qa qn qc] 73 (0,0))) b7 0 nm lv oa on oc pa la ln lc na nn nc qa qn qc):=jH (by rw [hb7];exact at_c7 (At.new _ _))
   clear hx hC7 hSX hUF hdr hnp hPs hqn ea hlt hj
   go_upto_region 6 with fail
   generalize wr.alloc (.cells #[.string nm,.int .i64 lv,.slice oa on oc,.int .i64 pa,.slice la ln lc,.slice na nn nc,.slice qa qn qc] 73 (0,0))=w7 at *
   rw [← hb7]
   clear g0 g1 g2 g3 g4 g5 g6 hug hb7 HP
   obtain ⟨g0,g1,g2,g3,g4,g5,g6⟩:=HG7.out.cells
   simp only [Nat.zero_add] at g0 g1 g2 g3 g4 g5 g6
   go_wp2_with fail
   clear g0 g1 g2 g3 g4 g5 g6
   go_loopw [2,3,4,27] (fun v2 v3 v4 v V=>∃ q:Nat,q≤qn∧v2=.int .i64 0∧v3=.int .i64 0∧v4=.bool false∧v=.int .i64 (q:Int)∧(∀ (q':Nat) (p:Pnt),q'<q→ps[q']?=some p→x.ptB p=true)∧PX w V b5 bs a n cap (some ⟨ug,uo,none⟩) un ucap mn dr∧C7 V b7 0 nm lv oa on oc pa la ln lc na nn nc qa qn qc) (fun _ _ _ v _=>qn - (intOf v).toNat)
   case atStart=>exact ⟨0,Nat.zero_le _,rfl,rfl,rfl,rfl,fun q' p h=>by omega,HP7.out,HG7.out⟩
   case round =>
    clear HP7 HG7
    obtain ⟨q,hq,rfl,rfl,rfl,rfl,h2,hP,hG⟩:=hrel
    have HQ2:=jH h2
    have HP:=jH hP
    have HG:=jH hG
    clear h2 hP hG
    by_cases hlt:q<qn
    ·obtain ⟨p,hp⟩:∃ p,ps[q]?=some p:=⟨_,List.getElem?_eq_getElem (by rw [← HPS.out.len];exact hlt)⟩
     obtain ⟨pg,po,pv,ep,hpg,hrng,hpnt⟩:=HPS.out.at_ q p hp
     have ep2:qa=some ⟨pg,po,none⟩:=ep
     subst ep2
     have HRNG:Hid (wr.rangeAt pg (po+q*21) (pC pv)):=jH (rng_bel hpg hrng HP.out.po.bel)
     have HPP:=jH hp
     have HSB:Hid (ScB w ⟨pv,a,n,cap,some ⟨ug,uo,none⟩,un,ucap,mn,nm,lv,oa,on,oc,pa,la,ln,lc,na,nn,nc,some ⟨pg,po,none⟩,qn,qc,dr,zG,zG,none,0,0⟩ x p):=jH ⟨hpnt,HSX.out,HUF.out,HDR.out,HNP.out,rfl,rfl⟩
     have i0:(0:Int)≤(q:Int):=by omega
     have i1:(q:Int)<(qn:Int):=by omega
     have HLQ:=jH hlt
     clear hp hrng hpnt ep hlt hq hpg
     go_upto_region 10 with (first
      | ((with_reducible show wpList _ _ _ (Oper.mk (some _) (Op.load 118 (Operand.tmp 30)) _ _ _ none::_) _ _);refine wpl_load64 pg (po+q*21) (pC pv) rfl rfl HRNG.out Tryz.underlying118 rfl ?_)
      | ((with_reducible show wpList _ _ _ (Oper.mk none (Op.store 118 _ _) _ _ _ none::_) _ _);refine wpl_store64 wr.heap.size (there_new wr _ _ 21 rfl) (by simp) pv rfl rfl ?_;intro w3 hr3 hl3 hb3;have HR3:=jH hr3;have HP3:=jH ((HP.out.aft (belA (Below.refl _ _))).but hb3 (At.lt HP.out.po.dr) HP.out.lt);have HG3:=jH ((HG.out.bel (belA (Below.refl _ _))).but hb3 (by have:=HG.out.1;omega));have HL3:=jH hl3;clear hr3 hl3 hb3;obtain ⟨g0,g1,g2,g3,g4,g5,g6⟩:=HG3.out.cells;simp only [Nat.zero_add] at g0 g1 g2 g3 g4 g5 g6;obtain ⟨d0,d1,d2⟩:=HP3.out.po.un.un)
      | ((with_reducible show wpList _ _ _ (Oper.mk (some _) (Op.load 118 (Operand.tmp 10)) _ _ _ none::_) _ _);refine wpl_load64 wr.heap.size 0 (pC pv) rfl rfl HR3.out Tryz.underlying118 rfl ?_)
      | ((with_reducible show wpList _ _ _ (Oper.mk (some _) (Op.load 231 _) _ _ _ none::_) _ _);refine wpl_loadA b5 _ HP3.out.po.dr rfl Tryz.underlying231 rfl ?_)
      | ((with_reducible show wpList _ _ _ (Oper.mk (some _) (Op.build 248 _) _ _ _ none::_) _ _);refine wpl_build146 pv a n cap (some ⟨ug,uo,none⟩) un ucap mn nm lv oa on oc pa la ln lc na nn nc (some ⟨pg,po,none⟩) qn qc dr rfl rfl rfl rfl ?_)
      | ((with_reducible show wpList _ _ _ (Oper.mk none (Op.store 248 _ _) _ _ _ none::_) _ _);refine wpl_store146 bs HP3.out.th HP3.out.lt pv a n cap (some ⟨ug,uo,none⟩) un ucap mn nm lv oa on oc pa la ln lc na nn nc (some ⟨pg,po,none⟩) qn qc dr rfl rfl ?_;intro w4 hs4 hb4;have HS4:=jH hs4;have HP4:=jH (HP3.out.own hb4 HB5.out.1 hs4.th);have HG4:=jH (HG3.out.but hb4 (by have:=HB7.out;omega));clear hs4 hb4))
     clear g0 g1 g2 g3 g4 g5 g6 d0 d1 d2 HR3 HP3 HG3 HL3 HRNG HP HG
     go_wp2_with fail
     go_loopw [2,3,4,38] (fun v2 v3 v4 v V=>∃ k:Nat,k≤5∧v2=.int .i64 0∧v3=.int .i64 0∧v4=.bool false∧v=.int .i64 (k:Int)∧Pst w V bs ⟨pv,a,n,cap,some ⟨ug,uo,none⟩,un,ucap,mn,nm,lv,oa,on,oc,pa,la,ln,lc,na,nn,nc,some ⟨pg,po,none⟩,qn,qc,dr,zG,zG,none,0,0⟩ x p k∧PX w V b5 bs a n cap (some ⟨ug,uo,none⟩) un ucap mn dr∧C7 V b7 0 nm lv oa on oc pa la ln lc na nn nc (some ⟨pg,po,none⟩) qn qc) (fun _ _ _ v _=>5 - (intOf v).toNat)
     case atStart=>exact ⟨0,by omega,rfl,rfl,rfl,rfl,HS4.out,HP4.out,HG4.out⟩
     case round =>
      clear HS4 HP4 HG4
      obtain ⟨k,hk,rfl,rfl,rfl,rfl,hSt,hP,hG⟩:=hrel
      have HST:=jH hSt
      have HP:=jH hP
      have HG:=jH hG
      clear hSt hP hG
      by_cases hlt:k<5
      ·have hk5:k=0∨k=1∨k=2∨k=3∨k=4:=by omega
       rcases hk5 with rfl|rfl|rfl|rfl|rfl
       ·obtain ⟨r,hC⟩:=stage_step18 HP.out.po.bel HB5.out.2 HSB.out 0 (by omega) HST.out
        rw [show 174+0=174 from rfl] at hC
        have C:=jH hC
        have hix:∀ W,(Instr.index 251 (.agg #[fnV 174,fnV 175,fnV 176,fnV 177,fnV 178]) (.int .i64 0)).run Tryz.prog W=.ok (fnV 174) W:=fun W=>idx5_0 W
        clear hC hlt hk
        rw [show ((0:Nat):Int)=0 from rfl]
        cases r with
        | true =>
         go_wp2_with (go_at_call 174;refine C.out.mono ?_;rintro e w5 ⟨rfl,hbt,hn,-⟩;have HST5:=jH (hn rfl).1;have HP5:=jH (HP.out.own hbt HB5.out.1 (hn rfl).2);have HG5:=jH (HG.out.but hbt (by have:=HB7.out;omega));clear hbt hn)
         exact ⟨⟨1,by omega,rfl,rfl,rfl,rfl,HST5.out,HP5.out,HG5.out⟩,by show 5 - (1:Int).toNat<5 - (0:Int).toNat;decide⟩
        | false =>
         go_wp2_with (go_at_call 174;refine C.out.mono ?_;rintro e w5 ⟨rfl,hbt,-,hn⟩;have HN5:=jH (hn rfl);have HP5:=jH (HP.out.po.but hbt HB5.out.1);clear hbt hn)
         (try simp only [Exit.noGoto])
         go_ret3
         exact ⟨⟨some (j,q),rfl,⟨x,ps,p,HX.out,HPP.out,HN5.out,HQ2.out⟩,HJ1.out⟩,HP5.out.bel⟩
       ·obtain ⟨r,hC⟩:=stage_step18 HP.out.po.bel HB5.out.2 HSB.out 1 (by omega) HST.out
        rw [show 174+1=175 from rfl] at hC
        have C:=jH hC
        have hix:∀ W,(Instr.index 251 (.agg #[fnV 174,fnV 175,fnV 176,fnV 177,fnV 178]) (.int .i64 1)).run Tryz.prog W=.ok (fnV 175) W:=fun W=>idx5_1 W
        clear hC hlt hk
        rw [show ((1:Nat):Int)=1 from rfl]
        cases r with
        | true =>
         go_wp2_with (go_at_call 175;refine C.out.mono ?_;rintro e w5 ⟨rfl,hbt,hn,-⟩;have HST5:=jH (hn rfl).1;have HP5:=jH (HP.out.own hbt HB5.out.1 (hn rfl).2);have HG5:=jH (HG.out.but hbt (by have:=HB7.out;omega));clear hbt hn)
         exact ⟨⟨2,by omega,rfl,rfl,rfl,rfl,HST5.out,HP5.out,HG5.out⟩,by show 5 - (2:Int).toNat<5 - (1:Int).toNat;decide⟩
        | false =>
         go_wp2_with (go_at_call 175;refine C.out.mono ?_;rintro e w5 ⟨rfl,hbt,-,hn⟩;have HN5:=jH (hn rfl);have HP5:=jH (HP.out.po.but hbt HB5.out.1);clear hbt hn)
         (try simp only [Exit.noGoto])
         go_ret3
         exact ⟨⟨some (j,q),rfl,⟨x,ps,p,HX.out,HPP.out,HN5.out,HQ2.out⟩,HJ1.out⟩,HP5.out.bel⟩
       ·obtain ⟨r,hC⟩:=stage_step18 HP.out.po.bel HB5.out.2 HSB.out 2 (by omega) HST.out
        rw [show 174+2=176 from rfl] at hC
        have C:=jH hC
        have hix:∀ W,(Instr.index 251 (.agg #[fnV 174,fnV 175,fnV 176,fnV 177,fnV 178]) (.int .i64 2)).run Tryz.prog W=.ok (fnV 176) W:=fun W=>idx5_2 W
        clear hC hlt hk
        rw [show ((2:Nat):Int)=2 from rfl]
        cases r with
        | true =>
         go_wp2_with (go_at_call 176;refine C.out.mono ?_;rintro e w5 ⟨rfl,hbt,hn,-⟩;have HST5:=jH (hn rfl).1;have HP5:=jH (HP.out.own hbt HB5.out.1 (hn rfl).2);have HG5:=jH (HG.out.but hbt (by have:=HB7.out;omega));clear hbt hn)
         exact ⟨⟨3,by omega,rfl,rfl,rfl,rfl,HST5.out,HP5.out,HG5.out⟩,by show 5 - (3:Int).toNat<5 - (2:Int).toNat;decide⟩
        | false =>
         go_wp2_with (go_at_call 176;refine C.out.mono ?_;rintro e w5 ⟨rfl,hbt,-,hn⟩;have HN5:=jH (hn rfl);have HP5:=jH (HP.out.po.but hbt HB5.out.1);clear hbt hn)
         (try simp only [Exit.noGoto])
         go_ret3
         exact ⟨⟨some (j,q),rfl,⟨x,ps,p,HX.out,HPP.out,HN5.out,HQ2.out⟩,HJ1.out⟩,HP5.out.bel⟩
       ·obtain ⟨r,hC⟩:=stage_step18 HP.out.po.bel HB5.out.2 HSB.out 3 (by omega) HST.out
        rw [show 174+3=177 from rfl] at hC
        have C:=jH hC
        have hix:∀ W,(Instr.index 251 (.agg #[fnV 174,fnV 175,fnV 176,fnV 177,fnV 178]) (.int .i64 3)).run Tryz.prog W=.ok (fnV 177) W:=fun W=>idx5_3 W
        clear hC hlt hk
        rw [show ((3:Nat):Int)=3 from rfl]
        cases r with
        | true =>
         go_wp2_with (go_at_call 177;refine C.out.mono ?_;rintro e w5 ⟨rfl,hbt,hn,-⟩;have HST5:=jH (hn rfl).1;have HP5:=jH (HP.out.own hbt HB5.out.1 (hn rfl).2);have HG5:=jH (HG.out.but hbt (by have:=HB7.out;omega));clear hbt hn)
         exact ⟨⟨4,by omega,rfl,rfl,rfl,rfl,HST5.out,HP5.out,HG5.out⟩,by show 5 - (4:Int).toNat<5 - (3:Int).toNat;decide⟩
        | false =>
         go_wp2_with (go_at_call 177;refine C.out.mono ?_;rintro e w5 ⟨rfl,hbt,-,hn⟩;have HN5:=jH (hn rfl);have HP5:=jH (HP.out.po.but hbt HB5.out.1);clear hbt hn)
         (try simp only [Exit.noGoto])
         go_ret3
         exact ⟨⟨some (j,q),rfl,⟨x,ps,p,HX.out,HPP.out,HN5.out,HQ2.out⟩,HJ1.out⟩,HP5.out.bel⟩
       ·obtain ⟨r,hC⟩:=stage_step18 HP.out.po.bel HB5.out.2 HSB.out 4 (by omega) HST.out
        rw [show 174+4=178 from rfl] at hC
        have C:=jH hC
        have hix:∀ W,(Instr.index 251 (.agg #[fnV 174,fnV 175,fnV 176,fnV 177,fnV 178]) (.int .i64 4)).run Tryz.prog W=.ok (fnV 178) W:=fun W=>idx5_4 W
        clear hC hlt hk
        rw [show ((4:Nat):Int)=4 from rfl]
        cases r with
        | true =>
         go_wp2_with (go_at_call 178;refine C.out.mono ?_;rintro e w5 ⟨rfl,hbt,hn,-⟩;have HST5:=jH (hn rfl).1;have HP5:=jH (HP.out.own hbt HB5.out.1 (hn rfl).2);have HG5:=jH (HG.out.but hbt (by have:=HB7.out;omega));clear hbt hn)
         exact ⟨⟨5,by omega,rfl,rfl,rfl,rfl,HST5.out,HP5.out,HG5.out⟩,by show 5 - (5:Int).toNat<5 - (4:Int).toNat;decide⟩
        | false =>
         go_wp2_with (go_at_call 178;refine C.out.mono ?_;rintro e w5 ⟨rfl,hbt,-,hn⟩;have HN5:=jH (hn rfl);have HP5:=jH (HP.out.po.but hbt HB5.out.1);clear hbt hn)
         (try simp only [Exit.noGoto])
         go_ret3
         exact ⟨⟨some (j,q),rfl,⟨x,ps,p,HX.out,HPP.out,HN5.out,HQ2.out⟩,HJ1.out⟩,HP5.out.bel⟩
      ·obtain rfl:k=5:=by omega
       have HOK:Hid (x.ptB p=true):=HST.out
       clear hlt hk
       rw [show ((5:Nat):Int)=5 from rfl]
       go_wp2_with fail
       refine ⟨⟨q+1,HLQ.out,rfl,rfl,rfl,rfl,fun q' p' hq' hp'=>?_,HP.out,HG.out⟩,?_⟩
       ·rcases Nat.lt_or_ge q' q with h1|h1
        ·exact HQ2.out q' p' h1 hp'
        ·obtain rfl:q'=q:=by omega
         have:=HPP.out
         rw [hp'] at this
         cases this
         exact HOK.out
       ·show qn - ((q:Int)+1).toNat<qn - (q:Int).toNat
        have:=HLQ.out
        omega
    ·obtain rfl:q=qn:=by omega
     have lt:¬ (q:Int)<(q:Int):=by omega
     clear hlt hq
     go_wp2_with fail
     refine ⟨⟨j+1,HLT.out,rfl,rfl,rfl,rfl,fun j' x' ps' hj' hx' p hp=>?_,HP.out⟩,?_⟩
     ·rcases Nat.lt_or_ge j' j with h1|h1
      ·exact HJ1.out j' x' ps' h1 hx' p hp
      ·obtain rfl:j'=j:=by omega
       have:=HX.out
       rw [hx'] at this
       cases this
       obtain ⟨i,hi⟩:=List.getElem?_of_mem hp
       exact HQ2.out i p (by have:=(List.getElem?_eq_some_iff.1 hi).1;rw [HPS.out.len];exact this) hi
     ·show un - ((j:Int)+1).toNat<un - (j:Int).toNat
      have:=HLT.out
      omega
  ·obtain rfl:j=un:=by omega
   have lt:¬ (j:Int)<(j:Int):=by omega
   clear hlt hj
   go_wp2_with fail
   go_ret3
   exact ⟨⟨none,rfl,fun j' x ps hx p hp=>HJ1.out j' x ps (by have:=(List.getElem?_eq_some_iff.1 hx).1;rw [HU.out.len] at this;exact this) hx p hp⟩,HP.out.po.bel⟩
end Go.Proofs.YtmjenlogbkbgnaaGreatDoor
