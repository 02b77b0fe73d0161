import Derived.Test.YtmjenlogbkbgnaaGreatDoorC10
import Derived.Test.YtmjenlogbkbgnaaGreatDoorTie
import Derived.Test.YtmjenlogbkbgnaaGreatDoorCards
import Derived.ProofKit
import Derived.OpenShut
import Derived.ShutString
import Derived.ChangeOld
import Derived.ChangeMaps5
import Derived.ChangeSlices
import Derived.Below
import Derived.Lib.SmallJoins
import Derived.LaidMore
import Derived.Stop.Joined
import Derived.SevenTiedAt
import Derived.HandedShaped
import Derived.Lay
import Derived.MakeChecks
import Derived.Deep.Slices
namespace Go.Proofs.YtmjenlogbkbgnaaGreatDoor
open Go.ChangeShapes Go.WideShapes Go.ChangeAt Go.RowKit Go.Joins Go.Shelf Go.WideElems Go.Maps
set_option linter.unusedVariables false
set_option linter.unusedSimpArgs false
set_option maxRecDepth 100000
theorem own:ownKnob Tryz.prog.godebug=none:=by kernel_rfl
theorem laidOutZ:laidOutB Tryz.prog=true:=by kernel_rfl
theorem lift_shaped {H:Type} {enc:TypeId × Value→H} {a:Assume} {C:Checked} {os:Os} {f:FuncId} {fn:Func} {s:ChangeSpec} {conds:List PathCond} {apart fresh handsOn again:Bool} {X:World→Array Value→Prop}
  (hX:∀ (w w':World) (args:Array Value),w.heap=w'.heap→X w args→X w' args)
  (own:ownKnob C.prog.godebug=none) (started:os.Started) (noInit:C.prog.inits.idxOf? f=none) (hfn:C.prog.funcs[f]?=some fn)
  (witness:∃ (w:World) (tape:Tape) (i:Input),w.os=os∧(w.forCall tape i).Shaped C.prog∧i.vars=[]∧Input.okWide C.prog (w.forCall tape i) .any w.heap.size f i ∧
   ((s.pre enc C.prog fn conds apart (w.forCall tape i).memory i.args∧X (w.forCall tape i).memory i.args)∧sizedMet enc C.prog fn (OpenSpec.ofChange s) apart (w.forCall tape i).memory i.args)∧a.holds C.prog (lone (Frame.enter C.prog f i.args .normal) [] (w.forCall tape i)))
  (contract:∀ (W:World) (base:Nat) (args:Array Value) (ds gs:List (DataW H)) (before:List MemPlace),
   (∀ (j:Nat) t v,fn.params[j]?=some t→args[j]?=some v→Value.okWide C.prog W .any base t v) →
   DataW.Whole enc C.prog fn.params.toList s.vars apart W args.toList ds gs before→X W args→W.ShapedOpen C.prog →
   Calls C.prog f args W fun e W'=>∃ v,e=.returned v∧s.post enc C.prog fn apart fresh handsOn again W args v W') :
  ReturnsInHanded a C os f .any (fun w args=>(s.pre enc C.prog fn conds apart w args∧X w args)∧sizedMet enc C.prog fn (OpenSpec.ofChange s) apart w args) (s.post enc C.prog fn apart fresh handsOn again):=by
 apply returnsInHanded_of_calls own started noInit witness
 rintro w tape i - shape - ok ⟨⟨⟨ds,gs,before,whole,-⟩,x⟩,-⟩ -
 obtain ⟨_,_,_,fn',is,_,_,_,_,vals⟩:=ok
 cases Option.some.inj (is.symm.trans hfn)
 refine (contract (w.forCall tape i) w.heap.size i.args ds gs before vals (whole.of_heap (w':=w.forCall tape i) (by rfl)) (hX _ _ _ (by rfl) x) shape).mono ?_
 rintro e W' ⟨v,rfl,post⟩
 exact ChangeSpec.post_blind post
abbrev laidT:List (String × DataW Unit):=[("math/bits.deBruijn64tab",Rows.laid_math_bits_deBruijn64tab)]
theorem door_metT (os:Os) (args:Array Value):laidMetH Tryz.prog laidT ((World.laidAll Tryz.prog os laidT).forCall (fun _ _=>0) ⟨#[],args,[]⟩).memory:=by
 rw [MakeChecks.laidMetH_plain _ _ _ (by kernel_rfl)]
 exact laidMet_laidAll _ (by kernel_rfl) (by kernel_rfl)
theorem open_type {H:Type} {enc:TypeId × Value→H} {W:World} {r:Reach} {b0 base:Nat} {v:Value} {d:DataW H} {p:List MemPlace} {held:Bool} (hval:Value.okWide Tryz.prog W r b0 43 v) (h:DataW.Trod enc Tryz.prog W base (fun _=>true) held 43 v d p) :
  ∃ (f:Fv) (t:Ty),v=f.v∧TyAt W f t:=by
 obtain ⟨cs,rfl,hsz⟩:=okWide_struct Tryz.underlying43 hval
 rw [show Tryz.prog.cellsOf 43=5 by kernel_rfl] at hsz
 obtain ⟨fuel,hf⟩:=h
 obtain ⟨f,t,hcs,ht⟩:=open_ty fuel _ _ hf
 refine ⟨f,t,?_,ht⟩
 obtain ⟨l⟩:=cs
 match l,hsz with
 | [c0,c1,c2,c3,c4],_ =>
  simp [Value.cells] at hcs
  obtain ⟨rfl,rfl,rfl,rfl,rfl⟩:=hcs
  rfl
def FWalk:Prop:=∀ (t u:Ty) (f g:Fv) (w:World),TyAt w f t→TyAt w g u→Calls Tryz.prog 5 #[f.v,g.v] w fun e w'=>e=.returned (.bool true)∧Below w.heap.size w w'
theorem Tryz.params5:Tryz.f5.params=#[43,43]:=rfl
theorem outliveFlows_lifted (flows_walk:FWalk) (os:Os) (started:os.Started) (H:Type) (enc:TypeId × Value→H) :
  ReturnsInHanded {} Tryz.checked os 5 .any (fun w args=>(Rows.outliveFlowsSpec.pre enc Tryz.prog Tryz.f5 [] false w args∧laidMetH Tryz.prog laidT w)∧sizedMet enc Tryz.prog Tryz.f5 (OpenSpec.ofChange Rows.outliveFlowsSpec) false w args)
   (Rows.outliveFlowsSpec.post enc Tryz.prog Tryz.f5 false true false false):=by
 refine lift_shaped (C:=Tryz.checked) (X:=fun w _=>laidMetH Tryz.prog laidT w) (fun _ _ _ hh h=>h.of_heap hh) own started (by kernel_rfl) Tryz.func5
  (ChangeSpec.witness_shaped (enc:=enc) (C:=Tryz.checked) (os:=os) (X:=fun w _=>laidMetH Tryz.prog laidT w) false (World.laidAll Tryz.prog os laidT) #[.agg #[.int .u8 0,.bool false,.int .i64 0,.int .i64 0,.slice none 0 0],.agg #[.int .u8 0,.bool false,.int .i64 0,.int .i64 0,.slice none 0 0]] 8 (World.laidAll_os _ _ _) (World.shaped_of_ZipB (by kernel_rfl) (by kernel_rfl)) (by kernel_rfl) (by kernel_rfl) (by kernel_rfl) (door_metT os _)) ?_
 intro W base args ds gs before hval0 hW hL hsh
 have hval:∀ (j:Nat) t v,Tryz.f5.params[j]?=some t→args[j]?=some v→Value.okWide Tryz.prog W .any base t v:=hval0
 have hW':=hW
 obtain ⟨p,q,hA0,hV,rfl,hfz,hnd⟩:=hW
 have hA:DataW.TrodAll enc Tryz.prog W 0 (fun _=>true) true Tryz.f5.params.toList args.toList ds p:=hA0
 rw [Tryz.params5] at hA hval
 obtain ⟨v0,vs0,d0,ds0,p0,q0,hargs,rfl,rfl,h0,r0⟩:=trodAll_cons hA
 obtain ⟨v1,vs1,d1,ds1,p1,q1,rfl,rfl,rfl,h1,r1⟩:=trodAll_cons r0
 obtain ⟨rfl,rfl,rfl⟩:=trodAll_nil r1
 obtain rfl:args=#[v0,v1]:=by cases args;simp_all
 obtain ⟨rfl,rfl⟩:=trodVars_none hV
 have k0:=h0
 have k1:=h1
 have lt0:∀ x∈p0,x.block<W.heap.size:=by obtain ⟨m,hm⟩:=k0;exact DataW.trod_lt m _ _ _ hm
 have lt1:∀ x∈p1,x.block<W.heap.size:=by obtain ⟨m,hm⟩:=k1;exact DataW.trod_lt m _ _ _ hm
 obtain ⟨f,t,rfl,hT⟩:=open_type (hval 0 43 v0 rfl rfl) h0
 obtain ⟨g,u,rfl,hU⟩:=open_type (hval 1 43 v1 rfl rfl) h1
 clear hA0 hval0
 refine (flows_walk t u f g W hT hU).mono fun e W' ⟨he,bel⟩=>?_
 subst he
 exact ⟨_,rfl,_,_,_,[],_,[],hW',trodAll_mk1 (shut_bool Tryz.underlying4 _),(trodAll_cons_mk (Below.trod laidOutZ (by kernel_rfl) (of_decide_eq_true (by kernel_rfl)) k0 bel lt0) (trodAll_cons_mk (Below.trod laidOutZ (by kernel_rfl) (of_decide_eq_true (by kernel_rfl)) k1 bel lt1) trodAll_mk0)),rfl,bel.frame _,fun h=>by cases h⟩
theorem outliveFlows_row (flows_walk:FWalk):Rows.OutliveFlowsSaid :=
 OpenClaim.holds_of_wide 5 Tryz.f5 rfl rfl rfl rfl rfl rfl rfl ⟨rfl,rfl,rfl,rfl,rfl⟩ rfl rfl rfl rfl rfl (by kernel_rfl) Tryz.func5 (by kernel_rfl)
  (of_decide_eq_true (by kernel_rfl)) (by unfold Func.isWrapper;first|(rw [if_pos (by decide +kernel)];kernel_rfl)|(rw [if_neg (by decide +kernel)];exact ⟨rfl,rfl⟩))
  (fun os started H enc _=>outliveFlows_lifted flows_walk os started H enc)
theorem outliveFlows_card (flows_walk:FWalk):Rows.OutliveFlowsCardSaid :=
 Claim7.holds_tied_plain_at .later [] [.data] true (true,"3dc6808ff6b97fe453a5c0d9a0bd788b5b06c2fd7bbdfefd7312fcab223e1f67") false
  (outliveFlows_row flows_walk) (fun _ h=>by cases h) (by kernel_rfl) (fun _ h=>by cases h) outliveFlows_row_tie rfl ⟨rfl,rfl⟩ (by kernel_rfl) rfl
  (fun f fn hf hfn=>by
   obtain rfl:f=5:=Option.some.inj ((show Tryz.prog.funcNamed "loanword/loanwordlaw15.OutliveFlows"=some 5 by kernel_rfl).symm.trans hf) |>.symm
   obtain rfl:fn=Tryz.f5:=(Option.some.inj (Tryz.func5.symm.trans hfn)).symm
   exact ⟨by kernel_rfl,fun j t ht=>by
    rw [Tryz.params5] at ht
    have hm:t∈[43,43]:=by simpa using Array.mem_of_getElem? ht
    have hall:([43,43].all fun u=>!Tryz.prog.wantsStandIn u)=true:=by kernel_rfl
    exact (show Tryz.prog.wantsStandIn t=false by simpa using List.all_eq_true.1 hall t hm)⟩)
  (by kernel_rfl)
end Go.Proofs.YtmjenlogbkbgnaaGreatDoor
