import Derived.Test.YtmjenlogbkbgnaaGreatDoorC16
import Derived.Test.YtmjenlogbkbgnaaGreatDoorB20
import Derived.Test.YtmjenlogbkbgnaaGreatDoorB21
import Derived.Test.YtmjenlogbkbgnaaGreatDoorB22
namespace Go.Proofs.YtmjenlogbkbgnaaGreatDoor
open Go.RowKit Go.Shelf
set_option linter.unusedVariables false
set_option linter.unusedSimpArgs false
def chT (R:Option (Ch × List Int)):Ch:=(R.map (·.1)).getD (.leaf 0 0)
theorem wy_ty {w0 w:World} (hB:Below w0.heap.size w0 w) {g:Gy} {R:Option (Ch × List Int)} (h:WyAt w0 g R):TyAt w g.f (chT R).ty:=by
 cases R with
 | none =>
  have e:g=zG:=h
  rw [e]
  exact TyAt.mkLeaf 0 0 (by decide) (by decide) (by decide) none 0
 | some y=>exact h.1.bel hB
structure OpA (w0 w:World) (B b:Nat) (s:Scv) (x:Sc) (p:Pnt) (os:List Ch) (fs:List Fv):Prop where
 bel:Below w0.heap.size w0 w
 sc:ScS w b s
 sx:SX w0 s.a s.n s.cap s.la s.ln s.lc x
 uf:UF w0 s.ua s.un x.hs
 dr:x.dr=s.dr
 op:s.pv.op=p.op
 sg:s.pv.sg.toList=p.sg
 mu:s.pv.mu=p.mu
 fn:s.pv.fn=p.fn
 st:s.pv.st=p.st
 fl:s.pv.fp.l=p.fr.l
 fm:s.pv.fp.n=p.fr.p.length
 w1:WyAt w0 s.tw (x.toW p)
 w2:WyAt w0 s.fw (x.frW p)
 tl:TLs w0 w B s.ta s.tn s.tc os fs
 os:x.opsT (opsOf p)=some os
 toB:x.toB p=true
 frB:x.frB p=true
theorem OpA.toOk {w0 w:World} {B b:Nat} {s:Scv} {x:Sc} {p:Pnt} {os:List Ch} {fs:List Fv} (h:OpA w0 w B b s x p os fs) (hb:(fldO p.op).testBit 0=true):(chT (x.toW p)).ok s.n∧Ok (chT (x.toW p)):=by
 have h1:=h.toB
 unfold Sc.toB at h1
 rw [hb] at h1
 unfold Sc.toW
 rw [if_pos hb]
 cases hw:x.way p.to with
 | none=>rw [hw] at h1;cases h1
 | some y=>exact h.sx.way hw
theorem OpA.frOk {w0 w:World} {B b:Nat} {s:Scv} {x:Sc} {p:Pnt} {os:List Ch} {fs:List Fv} (h:OpA w0 w B b s x p os fs) (hb:(fldO p.op).testBit 5=true):∃ y,x.frW p=some y∧y.1.ok s.n∧Ok y.1∧s.fw.br=byRef y.2∧s.fw.bs=byShr y.2:=by
 have h1:=h.frB
 unfold Sc.frB at h1
 rw [hb] at h1
 have h2:=h.w2
 unfold Sc.frW at h2 ⊢
 rw [if_pos hb] at h2 ⊢
 cases hw:x.way p.fr with
 | none=>rw [hw] at h1;cases h1
 | some y =>
  rw [hw] at h2
  exact ⟨y,rfl,(h.sx.way hw).1,(h.sx.way hw).2,h2.2.1,h2.2.2⟩
theorem opMay_any {w0 w:World} {B b:Nat} {s:Scv} {x:Sc} {p:Pnt} {os:List Ch} {fs:List Fv} (h:OpA w0 w B b s x p os fs) (r:Bool) (hr:r=x.opB p (x.toW p) (x.frW p) os) :
  Calls Tryz.prog 178 #[.pointer (some ⟨b,0,none⟩)] w fun e w'=>e=.returned (.bool r)∧Below w.heap.size w w':=by
 have hT:=wy_ty h.bel h.w1
 have hF:=wy_ty h.bel h.w2
 have hL:=h.tl.lc h.bel
 have hxn:s.tn≤2000000:=by have:=h.tl.big;omega
 have hO:∀ c∈os,Ok c:=fun c hc=>(h.sx.opsT h.os c hc).2
 have hop:=h.op
 have hb0:∀ n,p.op=n→(fldO n).testBit 0=true→(chT (x.toW p)).ok s.n∧Ok (chT (x.toW p)):=fun n e hb=>h.toOk (by rw [e];exact hb)
 have hb5:∀ n,p.op=n→(fldO n).testBit 5=true→∃ y,x.frW p=some y∧y.1.ok s.n∧Ok y.1∧s.fw.br=byRef y.2∧s.fw.bs=byShr y.2:=fun n e hb=>h.frOk (by rw [e];exact hb)
 have hne:∀ n,p.op=n→(fldO n).testBit 1=true→os≠[]:=fun n e hb=>by
  intro e0
  have:=opsT_len x h.os
  rw [e0] at this
  unfold opsOf at this
  rw [e,hb,if_pos rfl] at this
  simp at this
 by_cases h1:p.op=1
 ·refine op_use h.bel b s h.sc (chT (x.toW p)) (chT (x.frW p)) os hT hF hL hxn hO (hop.trans h1) (hb0 1 h1 (by decide)).2 (hne 1 h1 (by decide)) r ?_
  rw [hr];unfold Sc.opB;simp only [if_pos h1];rfl
 by_cases h2:p.op=2
 ·refine op_binary h.bel b s h.sc (chT (x.toW p)) (chT (x.frW p)) os hT hF hL hxn hO (hop.trans h2) r ?_
  rw [hr,h.sg];unfold Sc.opB binB;simp only [if_neg h1,if_pos h2];rfl
 by_cases h3:p.op=3
 ·refine op_unary h.bel b s h.sc (chT (x.toW p)) (chT (x.frW p)) os hT hF hL hxn hO (hop.trans h3) (hne 3 h3 (by decide)) r ?_
  rw [hr,h.sg];unfold Sc.opB unB;simp only [if_neg h1,if_neg h2,if_pos h3];rfl
 by_cases h4:p.op=4
 ·obtain ⟨y,hy,hy1,hy2,hy3,hy4⟩:=hb5 4 h4 (by decide)
  refine op_borrow h.bel b s h.sc (chT (x.toW p)) (chT (x.frW p)) os hT hF hL hxn hO (hop.trans h4) (hb0 4 h4 (by decide)).2 (by rw [hy];exact hy2) r ?_
  rw [hr,h.mu,hy4];unfold Sc.opB brB;simp only [if_neg h1,if_neg h2,if_neg h3,if_pos h4,hy];rfl
 by_cases h5:p.op=5
 ·refine op_box h.bel b s h.sc (chT (x.toW p)) (chT (x.frW p)) os hT hF hL hxn hO (hop.trans h5) (hb0 5 h5 (by decide)).2 (hne 5 h5 (by decide)) r ?_
  rw [hr];unfold Sc.opB bxB;simp only [if_neg h1,if_neg h2,if_neg h3,if_neg h4,if_pos h5];rfl
 by_cases h6:p.op=6
 ·refine op_make h.bel b s h.sc (chT (x.toW p)) (chT (x.frW p)) os hT hF hL hxn hO (hop.trans h6) h.sx (hb0 6 h6 (by decide)).1 r ?_
  rw [hr,h.st];unfold Sc.opB;simp only [if_neg h1,if_neg h2,if_neg h3,if_neg h4,if_neg h5,if_pos h6]
  show (match chT (x.toW p) with|.leaf k s=>decide (k=5) && decide (s=p.st) && alikeL (x.fc p.st.toNat) os|_=>false)=_
  cases chT (x.toW p) <;> rfl
 by_cases h7:p.op=7
 ·refine op_call h.bel b s h.sc (chT (x.toW p)) (chT (x.frW p)) os hT hF hL hxn hO (hop.trans h7) h.uf (hb0 7 h7 (by decide)).2 r ?_
  rw [hr,h.fn];unfold Sc.opB cmB;simp only [if_neg h1,if_neg h2,if_neg h3,if_neg h4,if_neg h5,if_neg h6,if_pos h7];rfl
 by_cases h8:p.op=8
 ·refine op_read h.bel b s h.sc (chT (x.toW p)) (chT (x.frW p)) os hT hF hL hxn hO (hop.trans h8) r ?_
  rw [hr];unfold Sc.opB;simp only [if_neg h1,if_neg h2,if_neg h3,if_neg h4,if_neg h5,if_neg h6,if_neg h7,if_pos h8];rfl
 by_cases h9:p.op=9
 ·refine op_print h.bel b s h.sc (chT (x.toW p)) (chT (x.frW p)) os hT hF hL hxn hO (hop.trans h9) r ?_
  rw [hr];unfold Sc.opB;simp only [if_neg h1,if_neg h2,if_neg h3,if_neg h4,if_neg h5,if_neg h6,if_neg h7,if_neg h8,if_pos h9]
 by_cases h10:p.op=10
 ·obtain ⟨y,hy,hy1,hy2,hy3,hy4⟩:=hb5 10 h10 (by decide)
  refine op_drop h.bel b s h.sc (chT (x.toW p)) (chT (x.frW p)) os hT hF hL hxn hO (hop.trans h10) h.dr (s.n:Int) (by have:=h.sx.sf.le;omega) (by rw [hy];exact hy1) r ?_
  rw [hr,hy3];unfold Sc.opB;simp only [if_neg h1,if_neg h2,if_neg h3,if_neg h4,if_neg h5,if_neg h6,if_neg h7,if_neg h8,if_neg h9,if_pos h10,hy];rfl
 by_cases h11:p.op=11
 ·refine op_dead h.bel b s h.sc (chT (x.toW p)) (chT (x.frW p)) os hT hF hL hxn hO (hop.trans h11) r ?_
  rw [hr,h.fl,h.fm];unfold Sc.opB;simp only [if_neg h1,if_neg h2,if_neg h3,if_neg h4,if_neg h5,if_neg h6,if_neg h7,if_neg h8,if_neg h9,if_neg h10,if_pos h11]
 by_cases h12:p.op=12
 ·refine op_branch h.bel b s h.sc (chT (x.toW p)) (chT (x.frW p)) os hT hF hL hxn hO (hop.trans h12) r ?_
  rw [hr];unfold Sc.opB;simp only [if_neg h1,if_neg h2,if_neg h3,if_neg h4,if_neg h5,if_neg h6,if_neg h7,if_neg h8,if_neg h9,if_neg h10,if_neg h11,if_pos h12]
 have hrest:r=(decide (p.op=13) || decide (p.op=14)):=by
  rw [hr];unfold Sc.opB;simp only [if_neg h1,if_neg h2,if_neg h3,if_neg h4,if_neg h5,if_neg h6,if_neg h7,if_neg h8,if_neg h9,if_neg h10,if_neg h11,if_neg h12]
 by_cases h13:p.op=13
 ·exact op_13 h.bel b s h.sc (chT (x.toW p)) (chT (x.frW p)) os hT hF hL hxn hO (hop.trans h13) r (by rw [hrest,decide_eq_true h13];rfl)
 by_cases h14:p.op=14
 ·exact op_14 h.bel b s h.sc (chT (x.toW p)) (chT (x.frW p)) os hT hF hL hxn hO (hop.trans h14) r (by rw [hrest,decide_eq_true h14,Bool.or_true])
 ·exact op_none h.bel b s h.sc (chT (x.toW p)) (chT (x.frW p)) os hT hF hL hxn hO (by rw [hop];omega) r (by rw [hrest,decide_eq_false h13,decide_eq_false h14];rfl)
end Go.Proofs.YtmjenlogbkbgnaaGreatDoor
