import Derived.Test.YtmjenlogbkbgnaaGreatDoorC10
import Derived.Test.YtmjenlogbkbgnaaGreatDoorB24
import Derived.Test.YtmjenlogbkbgnaaGreatDoorC18
import Derived.ChangeSame
import Derived.Deep.Strs
import Derived.Lib.SmallJoins
namespace Go.Proofs.YtmjenlogbkbgnaaGreatDoor
open Go.RowKit Go.Shelf Go.ChangeShapes Go.WideShapes Go.ChangeAt Go.Joins Go.WideElems Go.Maps
set_option linter.unusedVariables false
set_option linter.unusedSimpArgs false
set_option maxRecDepth 100000
set_option maxHeartbeats 8000000
theorem list_pick {α β:Type}:∀ (l:List α) (Q:Nat→α→β→Prop),(∀ (j:Nat) (a:α),l[j]?=some a→∃ b,Q j a b)→∃ m:List β,m.length=l.length∧∀ (j:Nat) (a:α),l[j]?=some a→∃ b,m[j]?=some b∧Q j a b
 | [],Q,_=>⟨[],rfl,fun j a h=>by simp at h⟩
 | a::l,Q,h=>by
  obtain ⟨b,hb⟩:=h 0 a rfl
  obtain ⟨m,h1,h2⟩:=list_pick l (fun j=>Q (j+1)) (fun j c hc=>h (j+1) c (by simpa using hc))
  refine ⟨b::m,by simp [h1],fun j c hc=>?_⟩
  cases j with
  | zero=>simp at hc;subst hc;exact ⟨b,rfl,hb⟩
  | succ j =>
   obtain ⟨d,h3,h4⟩:=h2 j c (by simpa using hc)
   exact ⟨d,by simpa using h3,h4⟩
structure FcIs (ss:List (List Ty)) (n:Nat) (fc:Nat→List Ch):Prop where
 lt:∀ j,j<n→fld ss j=(fc j).map Ch.ty
 ok:∀ j,j<n→∀ c∈fc j,c.ok n∧Ok c
 ge:∀ j,n≤j→fc j=[]
theorem FcIs.uniq {ss:List (List Ty)} {n:Nat} {fc fc':Nat→List Ch} (h:FcIs ss n fc) (h':FcIs ss n fc'):fc=fc':=by
 funext j
 by_cases hj:j<n
 ·exact map_ty_inj (by rw [← h.lt j hj,← h'.lt j hj])
 ·rw [h.ge j (by omega),h'.ge j (by omega)]
structure XsIs (ss:List (List Ty)) (n:Nat) (mn:Int) (gs:List Grp) (fc:Nat→List Ch) (hs:List (Nat × List Ch)) (xs:List (Sc × List Pnt)):Prop where
 hfc:FcIs ss n fc
 l1:hs.length=gs.length
 l2:xs.length=gs.length
 at_:∀ (j:Nat) (g:Grp),gs[j]?=some g→∃ cl,HdOk n (isMn mn j) g cl∧hs[j]?=some (g.pa.toNat,cl)∧xs[j]?=some (⟨fc,cl,dU ss n,hs,g.pt.length⟩,g.pt)
theorem HdOk.uniq {n:Nat} {m m':Bool} {g:Grp} {cl cl':List Ch} (h:HdOk n m g cl) (h':HdOk n m' g cl'):cl=cl':=map_ty_inj (by rw [← h.lo,← h'.lo])
theorem XsIs.uniq {ss:List (List Ty)} {n:Nat} {mn:Int} {gs:List Grp} {fc fc':Nat→List Ch} {hs hs':List (Nat × List Ch)} {xs xs':List (Sc × List Pnt)} (h:XsIs ss n mn gs fc hs xs) (h':XsIs ss n mn gs fc' hs' xs'):xs=xs':=by
 have e1:=h.hfc.uniq h'.hfc
 subst e1
 have e2:hs=hs':=by
  apply List.ext_getElem?
  intro j
  by_cases hj:j<gs.length
  ·obtain ⟨cl,a1,a2,-⟩:=h.at_ j _ (List.getElem?_eq_getElem hj)
   obtain ⟨cl',b1,b2,-⟩:=h'.at_ j _ (List.getElem?_eq_getElem hj)
   rw [a2,b2,a1.uniq b1]
  ·rw [List.getElem?_eq_none (by rw [h.l1];omega),List.getElem?_eq_none (by rw [h'.l1];omega)]
 subst e2
 apply List.ext_getElem?
 intro j
 by_cases hj:j<gs.length
 ·obtain ⟨cl,a1,-,a3⟩:=h.at_ j _ (List.getElem?_eq_getElem hj)
  obtain ⟨cl',b1,-,b3⟩:=h'.at_ j _ (List.getElem?_eq_getElem hj)
  rw [a3,b3,a1.uniq b1]
 ·rw [List.getElem?_eq_none (by rw [h.l2];omega),List.getElem?_eq_none (by rw [h'.l2];omega)]
structure UOk (ss:List (List Ty)) (n:Nat) (so:Bool) (un:Nat) (mn:Int) (gs:List Grp):Prop where
 un:unitB so un mn=true
 hd:∀ (j:Nat) (g:Grp),gs[j]?=some g→HdP n (isMn mn j) g
 pt:∃ fc hs xs,XsIs ss n mn gs fc hs xs∧PfIs xs none
def CkBad (ss:List (List Ty)) (n:Nat) (so:Bool) (un:Nat) (mn:Int) (gs:List Grp) (f q:Int):Prop :=
 (f=-1∧q=-1∧unitB so un mn=false)∨(unitB so un mn=true∧∃ j:Nat,f=(j:Int)∧q=-1∧HfIs n mn gs (some j)) ∨
 (unitB so un mn=true∧HfIs n mn gs none∧∃ (j k:Nat) (fc:Nat→List Ch) (hs:List (Nat × List Ch)) (xs:List (Sc × List Pnt)),f=(j:Int)∧q=(k:Int)∧XsIs ss n mn gs fc hs xs∧PfIs xs (some (j,k)))
theorem xs_ex {w:World} {a ua:Option Addr} {n cap un:Nat} {mn:Int} {ss:List (List Ty)} (hSt:StAt w a n cap ss) {b1 b2 b3:Nat→Bool} (hb:Flt ss b1 b2 b3) (hso:(stRes n b1 b2 b3).2=0) {gs:List Grp} (hU:UnAt w ua un gs) (hun:un≤32) (hh:HfIs n mn gs none) :
  ∃ fc hs xs,XsIs ss n mn gs fc hs xs∧UG w a n cap ua un (dU ss n) xs:=by
 obtain ⟨fc0,cl0,hC,hI⟩:=cx_of (la:=none) (ln:=0) (lcap:=0) (ts:=[]) hSt ⟨rfl,by simp,fun h=>absurd rfl h⟩ hb
 have ho:mayL n (decide ((stRes n b1 b2 b3).2=0)) []=true:=mayL_iff.2 ⟨decide_eq_true hso,fun t ht=>by simp at ht⟩
 have hS0:=hC.sf ho
 have hI0:=(hI ho).2.2
 obtain ⟨fc,hfc⟩:∃ fc:Nat→List Ch,fc=fun j=>if j<n then fc0 j else []:=⟨_,rfl⟩
 have efc:∀ j,j<n→fc j=fc0 j:=fun j hj=>by rw [hfc];exact if_pos hj
 have hSF:SF w a n cap fc:=⟨fun j hj=>by rw [efc j hj];exact hS0.st j hj,fun j hj=>by rw [efc j hj];exact hS0.ok j hj,hS0.le,fun j hj=>by rw [efc j hj];exact hS0.len j hj⟩
 have hFC:FcIs ss n fc:=⟨fun j hj=>by rw [efc j hj];exact (hI0 j hj).1,fun j hj c hc=>by
  rw [efc j hj] at hc
  exact ⟨hS0.ok j hj c hc,Ch.ok_mono (by have:=hS0.le;omega) c (hS0.ok j hj c hc),(hI0 j hj).2 c hc⟩,fun j hj=>by rw [hfc];exact if_neg (by omega)⟩
 obtain ⟨cls,hl,hcls⟩:=list_pick gs (fun j g cl=>HdOk n (isMn mn j) g cl) (fun j g hg=>hh j g hg)
 obtain ⟨hs,hl2,hhs⟩:=list_pick gs (fun j g (y:Nat × List Ch)=>HdOk n (isMn mn j) g y.2∧y.1=g.pa.toNat) (fun j g hg=>by
  obtain ⟨cl,h1⟩:=hh j g hg
  exact ⟨(g.pa.toNat,cl),h1,rfl⟩)
 obtain ⟨xs,hl3,hxs⟩:=list_pick gs (fun j g (y:Sc × List Pnt)=>∃ cl,HdOk n (isMn mn j) g cl∧y=(⟨fc,cl,dU ss n,hs,g.pt.length⟩,g.pt)) (fun j g hg=>by
  obtain ⟨cl,h1⟩:=hh j g hg
  exact ⟨_,cl,h1,rfl⟩)
 have hX:XsIs ss n mn gs fc hs xs:=⟨hFC,hl2,hl3,fun j g hg=>by
  obtain ⟨y,h1,cl,h2,rfl⟩:=hxs j g hg
  obtain ⟨⟨p,cl'⟩,h3,h4,h5⟩:=hhs j g hg
  have e1:cl'=cl:=h4.uniq h2
  have e2:p=g.pa.toNat:=h5
  subst e1 e2
  exact ⟨cl',h2,h3,h1⟩⟩
 refine ⟨fc,hs,xs,hX,by rw [hl3,← hU.len],hun,fun j x ps hx=>?_⟩
 have hj:j<gs.length:=by have:=(List.getElem?_eq_some_iff.1 hx).1;omega
 obtain ⟨g,hg⟩:∃ g,gs[j]?=some g:=⟨_,List.getElem?_eq_getElem hj⟩
 obtain ⟨cl,h1,h2,h3⟩:=hX.at_ j g hg
 rw [hx] at h3
 cases h3
 obtain ⟨ug,uo,nm,lv,oa,on,oc,pa,la,ln,lc,na,nn,nc,qa,qn,qc,ea,hC7,hG⟩:=hU.at_ j g hg
 obtain ⟨c1,c2,c3,c4,c5,c6,c7,c8,c9⟩:=cnt_parts h1.cnt
 have l1:ln=g.lo.length:=hG.lo.len
 refine ⟨ug,uo,nm,lv,oa,on,oc,pa,la,ln,lc,na,nn,nc,qa,qn,qc,ea,hC7,⟨hSF,⟨by rw [← h1.lo];exact hG.lo,fun c hc=>(h1.ok c hc).1⟩,fun j hj c hc=>(hFC.ok j hj c hc).2,fun c hc=>(h1.ok c hc).2⟩,⟨by rw [hl2,← hU.len],hun,fun j' k' cl' hj'=>?_⟩,rfl,hG.pt.len.symm,hG.pt,by rw [hG.pt.len];exact c9⟩
 have hj3:hs[j']?=some (k',cl'):=hj'
 have hj2:j'<gs.length:=by have:=(List.getElem?_eq_some_iff.1 hj3).1;omega
 obtain ⟨g',hg'⟩:∃ g,gs[j']?=some g:=⟨_,List.getElem?_eq_getElem hj2⟩
 obtain ⟨cl2,k1,k2,k3⟩:=hX.at_ j' g' hg'
 rw [hj3] at k2
 cases k2
 obtain ⟨ug',uo',nm',lv',oa',on',oc',pa',la',ln',lc',na',nn',nc',qa',qn',qc',ea',hC7',hG'⟩:=hU.at_ j' g' hg'
 obtain ⟨e1,e2,e3,e4,e5,e6,e7,e8,e9⟩:=cnt_parts k1.cnt
 have l1':ln'=g'.lo.length:=hG'.lo.len
 have ep:pa'=((g'.pa.toNat:Nat):Int):=by rw [hG'.pa];omega
 subst ep
 exact ⟨ug',uo',nm',lv',oa',on',oc',la',ln',lc',na',nn',nc',qa',qn',qc',ea',hC7',by rw [← k1.lo];exact hG'.lo,fun c hc=>(k1.ok c hc).2,by omega,by omega,by omega,hG'.lc⟩
def Cst (ss:List (List Ty)) (n:Nat) (so:Bool) (un:Nat) (mn:Int) (gs:List Grp):Nat→Prop
 | 0=>True
 | 1=>unitB so un mn=true
 | 2=>unitB so un mn=true∧HfIs n mn gs none
 | _=>UOk ss n so un mn gs
theorem chk_step {w W:World} (hW:Below w.heap.size w W) {a ua:Option Addr} {n cap un ucap:Nat} {mn:Int} {ss:List (List Ty)} (hSt:StAt w a n cap ss) {b1 b2 b3:Nat→Bool} (hb:Flt ss b1 b2 b3) {gs:List Grp} (hU:UnAt w ua un gs) {so:Bool} (hso:so=decide ((stRes n b1 b2 b3).2=0)) (k:Nat) (hk:k<3) (h:Cst ss n so un mn gs k) :
  ((Calls Tryz.prog (157+k) #[uV a n cap ua un ucap mn] W fun e w'=>e=.returned (.tuple #[.int .i64 0,.int .i64 0,.bool false])∧Below W.heap.size W w')∧Cst ss n so un mn gs (k+1))∨((Calls Tryz.prog (157+k) #[uV a n cap ua un ucap mn] W fun e w'=>(∃ f q,e=.returned (.tuple #[.int .i64 f,.int .i64 q,.bool true])∧CkBad ss n so un mn gs f q)∧Below W.heap.size W w')∧¬ UOk ss n so un mn gs):=by
 have hUW:UnAt W ua un gs:=⟨hU.len,fun j g hg=>by
  obtain ⟨ug,uo,nm,lv,oa,on,oc,pa,la,ln,lc,na,nn,nc,qa,qn,qc,ea,hC7,hG⟩:=hU.at_ j g hg
  exact ⟨ug,uo,nm,lv,oa,on,oc,pa,la,ln,lc,na,nn,nc,qa,qn,qc,ea,hC7.bel hW,hG.lv,hG.pa,hG.ou.bel hW,hG.lo.bel hW,hG.lc,hG.ns,hG.pt.bel hW⟩⟩
 match k,hk,h with
 | 0,_,_ =>
  have C:=unitFault_any W a ua n cap un ucap mn ss (hSt.bel hW) b1 b2 b3 hb _ rfl
  rw [← hso] at C
  cases hu:unitB so un mn with
  | true =>
   rw [hu] at C
   exact .inl ⟨C,hu⟩
  | false =>
   rw [hu] at C
   exact .inr ⟨C.mono fun e w' k=>⟨⟨-1,-1,k.1,.inl ⟨rfl,rfl,hu⟩⟩,k.2⟩,fun h=>by have:=h.un;rw [hu] at this;cases this⟩
 | 1,_,h =>
  have hu:unitB so un mn=true:=h
  have hu2:=hu
  unfold unitB at hu2
  simp only [Bool.and_eq_true,decide_eq_true_iff] at hu2
  have hso2:(stRes n b1 b2 b3).2=0:=by have:=hu2.1.1.1;rw [hso,decide_eq_true_iff] at this;exact this
  have C:=headFault_any W a ua n cap un ucap mn ss (hSt.bel hW) b1 b2 b3 hb hso2 gs hUW hu2.1.1.2
  by_cases hh:HfIs n mn gs none
  ·refine .inl ⟨C.mono fun e w' k=>⟨?_,k.2⟩,hu,hh⟩
   obtain ⟨R,h1,h2⟩:=k.1
   cases R with
   | none=>exact h1
   | some j =>
    obtain ⟨⟨g,hg,hn⟩,-⟩:=h2
    exact absurd (hh j g hg) hn
  ·refine .inr ⟨C.mono fun e w' k=>⟨?_,k.2⟩,fun h=>hh h.hd⟩
   obtain ⟨R,h1,h2⟩:=k.1
   cases R with
   | none=>exact absurd h2 hh
   | some j=>exact ⟨_,_,h1,.inr (.inl ⟨hu,j,rfl,rfl,h2⟩)⟩
 | 2,_,h =>
  obtain ⟨hu,hh⟩:=h
  have hu2:=hu
  unfold unitB at hu2
  simp only [Bool.and_eq_true,decide_eq_true_iff] at hu2
  have hso2:(stRes n b1 b2 b3).2=0:=by have:=hu2.1.1.1;rw [hso,decide_eq_true_iff] at this;exact this
  obtain ⟨fc,hs,xs,hX,hUG⟩:=xs_ex (hSt.bel hW) hb hso2 hUW hu2.1.1.2 hh
  have C:=pointFault_any W a ua n cap un ucap mn ss (hSt.bel hW) b1 b2 b3 hb hso2 xs hUG
  by_cases hp:PfIs xs none
  ·refine .inl ⟨C.mono fun e w' k=>⟨?_,k.2⟩,⟨hu,hh,fc,hs,xs,hX,hp⟩⟩
   obtain ⟨R,h1,h2⟩:=k.1
   cases R with
   | none=>exact h1
   | some y =>
    obtain ⟨j,q⟩:=y
    obtain ⟨⟨x,ps,p,g1,g2,g3,-⟩,-⟩:=h2
    have:=hp j x ps g1 p (List.mem_of_getElem? g2)
    rw [g3] at this
    cases this
  ·refine .inr ⟨C.mono fun e w' k=>⟨?_,k.2⟩,fun h=>?_⟩
   ·obtain ⟨R,h1,h2⟩:=k.1
    cases R with
    | none=>exact absurd h2 hp
    | some y =>
     obtain ⟨j,q⟩:=y
     exact ⟨_,_,h1,.inr (.inr ⟨hu,hh,j,q,fc,hs,xs,rfl,rfl,hX,h2⟩)⟩
   ·obtain ⟨fc',hs',xs',hX',hp'⟩:=h.pt
    rw [← hX.uniq hX'] at hp'
    exact hp hp'
theorem idxC_0 (W:World):(Instr.index 229 (.agg #[fnV 157,fnV 158,fnV 159]) (.int .i64 0)).run Tryz.prog W=.ok (fnV 157) W:=by kernel_rfl
theorem idxC_1 (W:World):(Instr.index 229 (.agg #[fnV 157,fnV 158,fnV 159]) (.int .i64 1)).run Tryz.prog W=.ok (fnV 158) W:=by kernel_rfl
theorem idxC_2 (W:World):(Instr.index 229 (.agg #[fnV 157,fnV 158,fnV 159]) (.int .i64 2)).run Tryz.prog W=.ok (fnV 159) W:=by kernel_rfl
def CkIs (ss:List (List Ty)) (n:Nat) (so:Bool) (un:Nat) (mn:Int) (gs:List Grp) (f q er:Int):Prop:=(f=0∧q=0∧er=0∧UOk ss n so un mn gs)∨(er=100∧¬ UOk ss n so un mn gs∧CkBad ss n so un mn gs f q)
theorem check_any {w:World} {a ua:Option Addr} {n cap un:Nat} (ucap:Nat) {mn:Int} {ss:List (List Ty)} (hSt:StAt w a n cap ss) {b1 b2 b3:Nat→Bool} (hb:Flt ss b1 b2 b3) {gs:List Grp} (hU:UnAt w ua un gs) {so:Bool} (hso:so=decide ((stRes n b1 b2 b3).2=0)) :
  Calls Tryz.prog 131 #[uV a n cap ua un ucap mn] w fun e w'=>(∃ f q er,e=.returned (.tuple #[.int .i64 f,.int .i64 q,.int .i64 er])∧CkIs ss n so un mn gs f q er)∧Below w.heap.size w w':=by
 have HStep:Hid (∀ (W:World) (k:Nat),Below w.heap.size w W→k<3→Cst ss n so un mn gs k→((Calls Tryz.prog (157+k) #[uV a n cap ua un ucap mn] W fun e w'=>e=.returned (.tuple #[.int .i64 0,.int .i64 0,.bool false])∧Below W.heap.size W w')∧Cst ss n so un mn gs (k+1))∨((Calls Tryz.prog (157+k) #[uV a n cap ua un ucap mn] W fun e w'=>(∃ f q,e=.returned (.tuple #[.int .i64 f,.int .i64 q,.bool true])∧CkBad ss n so un mn gs f q)∧Below W.heap.size W w')∧¬ UOk ss n so un mn gs)):=fun W k hW hk h=>chk_step hW hSt hb hU hso k hk h
 obtain ⟨V0,hV0⟩:∃ V0,V0=w.alloc (uO a n cap ua un ucap mn):=⟨_,rfl⟩
 have HA0:Hid (At V0 w.heap.size (uO a n cap ua un ucap mn)):=jH (by rw [hV0];exact At.new _ _)
 have HB0:Hid (Below w.heap.size w V0):=jH (by rw [hV0];exact belA bR)
 clear hSt hb hU hso
 go_enter Tryz.func131,Tryz.ntmps131
 go_upto_region 1 with fail
 rw [← hV0]
 clear hV0
 go_wp2_with fail
 go_loopw [11] (fun v V=>∃ k:Nat,k≤3∧v=.int .i64 (k:Int)∧Cst ss n so un mn gs k∧At V w.heap.size (uO a n cap ua un ucap mn)∧Below w.heap.size w V) (fun v _=>3 - (intOf v).toNat)
 case atStart=>exact ⟨0,by omega,rfl,trivial,HA0.out,HB0.out⟩
 case round =>
  clear HA0 HB0
  obtain ⟨k,hk,rfl,hS,hA,hB⟩:=hrel
  have HS:=jH hS
  have HA:=jH hA
  have HB:=jH hB
  clear hS hA hB
  obtain ⟨d0,d1,d2⟩:=HA.out.un
  by_cases hlt:k<3
  ·have hk5:k=0∨k=1∨k=2:=by omega
   rcases hk5 with rfl|rfl|rfl
   ·have hst:=HStep.out wr 0 HB.out (by omega) HS.out
    rw [show 157+0=157 from rfl] at hst
    have hix:∀ W,(Instr.index 229 (.agg #[fnV 157,fnV 158,fnV 159]) (.int .i64 0)).run Tryz.prog W=.ok (fnV 157) W:=fun W=>idxC_0 W
    rw [show ((0:Nat):Int)=0 from rfl]
    rcases hst with ⟨hC,hY⟩|⟨hC,hN⟩
    ·have C:=jH hC
     have HY:=jH hY
     clear hC hY hlt hk
     go_wp2_with (go_at_call 157;refine C.out.mono ?_;rintro e w5 ⟨rfl,hb5⟩;have HA5:=jH (HA.out.below hb5);have HB5:=jH (jB HB.out hb5);clear hb5)
     exact ⟨⟨1,by omega,rfl,HY.out,HA5.out,HB5.out⟩,by show 3 - (1:Int).toNat<3 - (0:Int).toNat;decide⟩
    ·have C:=jH hC
     have HN:=jH hN
     clear hC hN hlt hk
     go_wp2_with (go_at_call 157;refine C.out.mono ?_;rintro e w5 ⟨⟨f9,q9,rfl,hbad⟩,hb5⟩;have HBAD:=jH hbad;have HB5:=jH (jB HB.out hb5);clear hb5 hbad)
     go_ret3
     exact ⟨⟨_,_,_,rfl,.inr ⟨rfl,HN.out,HBAD.out⟩⟩,HB5.out⟩
   ·have hst:=HStep.out wr 1 HB.out (by omega) HS.out
    rw [show 157+1=158 from rfl] at hst
    have hix:∀ W,(Instr.index 229 (.agg #[fnV 157,fnV 158,fnV 159]) (.int .i64 1)).run Tryz.prog W=.ok (fnV 158) W:=fun W=>idxC_1 W
    rw [show ((1:Nat):Int)=1 from rfl]
    rcases hst with ⟨hC,hY⟩|⟨hC,hN⟩
    ·have C:=jH hC
     have HY:=jH hY
     clear hC hY hlt hk
     go_wp2_with (go_at_call 158;refine C.out.mono ?_;rintro e w5 ⟨rfl,hb5⟩;have HA5:=jH (HA.out.below hb5);have HB5:=jH (jB HB.out hb5);clear hb5)
     exact ⟨⟨2,by omega,rfl,HY.out,HA5.out,HB5.out⟩,by show 3 - (2:Int).toNat<3 - (1:Int).toNat;decide⟩
    ·have C:=jH hC
     have HN:=jH hN
     clear hC hN hlt hk
     go_wp2_with (go_at_call 158;refine C.out.mono ?_;rintro e w5 ⟨⟨f9,q9,rfl,hbad⟩,hb5⟩;have HBAD:=jH hbad;have HB5:=jH (jB HB.out hb5);clear hb5 hbad)
     go_ret3
     exact ⟨⟨_,_,_,rfl,.inr ⟨rfl,HN.out,HBAD.out⟩⟩,HB5.out⟩
   ·have hst:=HStep.out wr 2 HB.out (by omega) HS.out
    rw [show 157+2=159 from rfl] at hst
    have hix:∀ W,(Instr.index 229 (.agg #[fnV 157,fnV 158,fnV 159]) (.int .i64 2)).run Tryz.prog W=.ok (fnV 159) W:=fun W=>idxC_2 W
    rw [show ((2:Nat):Int)=2 from rfl]
    rcases hst with ⟨hC,hY⟩|⟨hC,hN⟩
    ·have C:=jH hC
     have HY:=jH hY
     clear hC hY hlt hk
     go_wp2_with (go_at_call 159;refine C.out.mono ?_;rintro e w5 ⟨rfl,hb5⟩;have HA5:=jH (HA.out.below hb5);have HB5:=jH (jB HB.out hb5);clear hb5)
     exact ⟨⟨3,by omega,rfl,HY.out,HA5.out,HB5.out⟩,by show 3 - (3:Int).toNat<3 - (2:Int).toNat;decide⟩
    ·have C:=jH hC
     have HN:=jH hN
     clear hC hN hlt hk
     go_wp2_with (go_at_call 159;refine C.out.mono ?_;rintro e w5 ⟨⟨f9,q9,rfl,hbad⟩,hb5⟩;have HBAD:=jH hbad;have HB5:=jH (jB HB.out hb5);clear hb5 hbad)
     go_ret3
     exact ⟨⟨_,_,_,rfl,.inr ⟨rfl,HN.out,HBAD.out⟩⟩,HB5.out⟩
  ·obtain rfl:k=3:=by omega
   have HOK:Hid (UOk ss n so un mn gs):=HS.out
   clear hlt hk
   rw [show ((3:Nat):Int)=3 from rfl]
   go_wp2_with fail
   go_ret3
   exact ⟨⟨_,_,_,rfl,.inl ⟨rfl,rfl,rfl,HOK.out⟩⟩,HB.out⟩
theorem mayU_any {w:World} {a ua:Option Addr} {n cap un:Nat} (ucap:Nat) {mn:Int} {ss:List (List Ty)} (hSt:StAt w a n cap ss) {b1 b2 b3:Nat→Bool} (hb:Flt ss b1 b2 b3) {gs:List Grp} (hU:UnAt w ua un gs) {so:Bool} (hso:so=decide ((stRes n b1 b2 b3).2=0)) (r:Bool) (hr:r=true↔UOk ss n so un mn gs) :
  Calls Tryz.prog 103 #[uV a n cap ua un ucap mn] w fun e w'=>e=.returned (.bool r)∧Below w.heap.size w w':=by
 have hUW:UnAt (w.alloc (uO a n cap ua un ucap mn)) ua un gs:=⟨hU.len,fun j g hg=>by
  obtain ⟨ug,uo,nm,lv,oa,on,oc,pa,la,ln,lc,na,nn,nc,qa,qn,qc,ea,hC7,hG⟩:=hU.at_ j g hg
  have hW:Below w.heap.size w (w.alloc (uO a n cap ua un ucap mn)):=belA bR
  exact ⟨ug,uo,nm,lv,oa,on,oc,pa,la,ln,lc,na,nn,nc,qa,qn,qc,ea,hC7.bel hW,hG.lv,hG.pa,hG.ou.bel hW,hG.lo.bel hW,hG.lc,hG.ns,hG.pt.bel hW⟩⟩
 have C0:=check_any (w:=w.alloc (uO a n cap ua un ucap mn)) (mn:=mn) ucap (hSt.bel (belA bR)) hb hUW hso
 have HA0:Hid (At (w.alloc (uO a n cap ua un ucap mn)) w.heap.size (uO a n cap ua un ucap mn)):=At.new _ _
 cases r with
 | true =>
  have hok:=hr.1 rfl
  have C:Hid (Calls Tryz.prog 131 #[uV a n cap ua un ucap mn] (w.alloc (uO a n cap ua un ucap mn)) fun e w'=>e=.returned (.tuple #[.int .i64 0,.int .i64 0,.int .i64 0])∧Below w.heap.size w w'):=jH (C0.mono fun e w' k=>by
   obtain ⟨⟨f,q,er,h1,h2⟩,h3⟩:=k
   rcases h2 with ⟨rfl,rfl,rfl,-⟩|⟨-,h2,-⟩
   ·exact ⟨h1,below1 h3⟩
   ·exact absurd hok h2)
  clear hr hok C0 hUW hSt hb hU hso HA0
  go_enter Tryz.func103,Tryz.ntmps103
  go_wp2_with (go_at_call 131;refine C.out.mono ?_;rintro e w5 ⟨rfl,hb5⟩;have HB5:=jH hb5;clear hb5)
  go_ret
  exact ⟨rfl,HB5.out⟩
 | false =>
  have hno:¬ UOk ss n so un mn gs:=fun h=>by have:=hr.2 h;cases this
  have C:Hid (Calls Tryz.prog 131 #[uV a n cap ua un ucap mn] (w.alloc (uO a n cap ua un ucap mn)) fun e w'=>(∃ f q,e=.returned (.tuple #[.int .i64 f,.int .i64 q,.int .i64 100]))∧Below w.heap.size w w'):=jH (C0.mono fun e w' k=>by
   obtain ⟨⟨f,q,er,h1,h2⟩,h3⟩:=k
   rcases h2 with ⟨-,-,-,h2⟩|⟨rfl,-,-⟩
   ·exact absurd h2 hno
   ·exact ⟨⟨f,q,h1⟩,below1 h3⟩)
  clear hr hno C0 hUW hSt hb hU hso HA0
  go_enter Tryz.func103,Tryz.ntmps103
  go_wp2_with (go_at_call 131;refine C.out.mono ?_;rintro e w5 ⟨⟨f9,q9,rfl⟩,hb5⟩;have HB5:=jH hb5;clear hb5)
  go_ret
  exact ⟨rfl,HB5.out⟩
structure RowA {Y:Type} (W:World) (a:Option Addr) (n cap s:Nat) (cells:Y→List Value) (Good:Y→Prop) (ys:List Y):Prop where
 len:n=ys.length
 le:n≤cap
 big:cap≤maxLen
 nil:a=none→cap=0
 at_:∀ (i:Nat) (y:Y),ys[i]?=some y→Good y∧∃ g off,a=some ⟨g,off,none⟩∧g<W.heap.size∧W.rangeAt g (off+i*s) (cells y)
theorem RowA.nul {Y:Type} (W:World) (s:Nat) (cells:Y→List Value) (Good:Y→Prop):RowA W none 0 0 s cells Good []:=⟨rfl,Nat.le_refl _,by simp,fun _=>rfl,fun i y h=>by simp at h⟩
structure OLr (w:World) (a:Option Addr) (n cap:Nat) (os:List Opd):Prop where
 len:n=os.length
 le:n≤maxLen
 nil:a=none→cap=0
 cells:os≠[]→∃ g off vs,a=some ⟨g,off,none⟩∧g<w.heap.size∧vs.length=os.length∧(∀ (j:Nat) (u:Value),(oCells vs)[j]?=some u→w.cell? ⟨g,off+j,none⟩=some u)∧∀ (i:Nat) (v:Ov) (o:Opd),vs[i]?=some v→os[i]?=some o→OAt w v o
theorem OLr.ol {w:World} {a:Option Addr} {n cap:Nat} {os:List Opd} (h:OLr w a n cap os) (hb:os.length≤1100000):OL w a n cap os:=⟨h.len,by rw [h.len];exact hb,h.nil,h.cells⟩
structure PntR (w:World) (v:Pv) (p:Pnt):Prop where
 op:v.op=p.op
 tp:PAt w v.tp p.to.p
 tl:v.tp.l=p.to.l
 a:OAt w v.a p.a
 b:OAt w v.b p.b
 ar:OLr w v.ra v.rn v.rc p.args
 sg:v.sg.toList=p.sg
 fp:PAt w v.fp p.fr.p
 fl:v.fp.l=p.fr.l
 mu:v.mu=p.mu
 fn:v.fn=p.fn
 st:v.st=p.st
 nx:v.nx=p.nx
 el:v.el=p.el
 ps:v.ps=p.pos
theorem PntR.at_ {w:World} {v:Pv} {p:Pnt} (h:PntR w v p) (hb:p.args.length≤1100000):PntAt w v p:=⟨h.op,h.tp,h.tl,h.a,h.b,h.ar.ol hb,h.sg,h.fp,h.fl,h.mu,h.fn,h.st,h.nx,h.el,h.ps⟩
end Go.Proofs.YtmjenlogbkbgnaaGreatDoor
