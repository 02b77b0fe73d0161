/-
  RegionOnce returns true for every unit and every number of a function, where unit and number hold together at most 1048576 values and letters, and leaves them as they were: the row of 'loanwordlaw13.RegionOnce', its second form (..UptoSaid). No condition beyond the statement's own.
-/
import Derived.Test.YtdlggpcakaofoaaGreatU02
import Derived.Test.YtdlggpcakaofoaaGreatU01
import Derived.Test.YtdlggpcakaofoaaGreatRows
import Derived.ProofKit
import Derived.ChangeSlices
import Derived.OpenShut
import Derived.ShutString
import Derived.ChangeOld
import Derived.ChangeMaps5
import Derived.Below
import Derived.Lib.SmallJoins
import Derived.Stop.Joined
import Derived.HandedShaped
import Derived.Lay
import Derived.MakeChecks
import Derived.JoinedCond
namespace Go.Proofs.YtdlggpcakaofoaaGreat
open Go.ChangeShapes Go.WideShapes Go.ChangeAt Go.RowKit Go.Joins Go.Shelf
set_option linter.unusedVariables false
set_option linter.unusedSimpArgs false
set_option maxRecDepth 100000
theorem UnAt.bel {w W:World} {ua:Option Addr} {un:Nat} {gs:List Grp} (hU:UnAt w ua un gs) (hW:Below w.heap.size w W):UnAt W ua un gs:=⟨hU.len,fun j g hg=>by
 obtain ⟨ug,uo,nm,lv,oa,on,oc,pa,la,ln,lc,na,nn,nc,qa,qn,qc,ea,hC7,hG⟩:=hU.at_ j g hg
 exact ⟨ug,uo,nm,lv,oa,on,oc,pa,la,ln,lc,na,nn,nc,qa,qn,qc,ea,hC7.bel hW,hG.lv,hG.pa,hG.ou.bel hW,hG.lo.bel hW,hG.lc,hG.ns,hG.pt.bel hW⟩⟩
theorem once_walk {w:World} {a ua:Option Addr} {n cap un ucap:Nat} {mn:Int} {ss:List (List Ty)} {gs:List Grp} (fn:Int) (hSt:StAt w a n cap ss) (hU:UnAt w ua un gs):Calls Tryz.prog 6 #[uV a n cap ua un ucap mn,.int .i64 fn] w fun e w'=>e=.returned (.bool true)∧Below w.heap.size w w':=by
 obtain ⟨b1,b2,b3,hb⟩:=flt_ex ss
 have hF:∀ W,Below w.heap.size w W→Calls Tryz.prog 8 #[uV a n cap ua un ucap mn] W fun e w'=>e=.returned (.bool (fitB n un ss gs))∧Below W.heap.size W w':=fun W hW=>fitsU_any ucap mn (hSt.bel hW) (hU.bel hW) _ rfl
 have hM:∀ mb:Bool,(mb=true↔UOk ss n (decide ((stRes n b1 b2 b3).2=0)) un mn gs)→∀ W,Below w.heap.size w W→Calls Tryz.prog 32 #[uV a n cap ua un ucap mn] W fun e w'=>e=.returned (.bool mb)∧Below W.heap.size W w':=fun mb hmb W hW=>mayU_any ucap (hSt.bel hW) hb (hU.bel hW) rfl mb hmb
 cases hfit:fitB n un ss gs with
 | false =>
  rw [hfit] at hF
  exact once_big fn hF
 | true =>
  rw [hfit] at hF
  by_cases hok:UOk ss n (decide ((stRes n b1 b2 b3).2=0)) un mn gs
  ·have hm:=hM true ⟨fun _=>hok,fun _=>rfl⟩
   by_cases h0:0≤fn∧fn<(un:Int)
   ·obtain ⟨j,rfl⟩:∃ j:Nat,fn=(j:Int):=⟨fn.toNat,by omega⟩
    obtain ⟨g,hg⟩:∃ g,gs[j]?=some g:=⟨_,List.getElem?_eq_getElem (by have:=hU.len;omega)⟩
    obtain ⟨cl,h1,h2⟩:=rgIn_of hU hok hg
    have hug:UG1 w a ua n cap un ucap mn gs j g cl (fun _=>[]):=⟨hm,h1,hg⟩
    by_cases hc:cntP gs (cntL g.lv cl) g.pt≤512
    ·exact once_main hug (fun k c hk q hq=>(h2.reg k c hk q hq).1) hF hc
    ·exact once_no (j:Int) true 5 hF hm (fun W hW=>Of_big (hug.bel hW) (by omega)) (.inr ⟨rfl,h0.1,h0.2,rfl⟩)
   ·have hn:fn<0∨(un:Int)≤fn∨true=false:=by
     rcases Int.lt_or_le fn 0 with h|h
     ·exact .inl h
     ·exact .inr (.inl (by omega))
    exact once_no fn true 2 hF hm (fun W hW=>Of_no fn true (fun V hV=>hm V (jB hW hV)) hn) (.inl ⟨rfl,hn⟩)
  ·have hm:=hM false ⟨(fun h=>by cases h),fun h=>absurd h hok⟩
   exact once_no fn false 2 hF hm (fun W hW=>Of_no fn false (fun V hV=>hm V (jB hW hV)) (.inr (.inr rfl))) (.inl ⟨rfl,.inr (.inr rfl)⟩)
theorem own1:ownKnob Tryz.prog.godebug=none:=by kernel_rfl
theorem laidOut1:laidOutB Tryz.prog=true:=by kernel_rfl
theorem Tryz.params6:Tryz.f6.params=#[25,3]:=rfl
theorem regionOnce_lifted (os:Os) (started:os.Started) (H:Type) (enc:TypeId × Value→H) (F:Stop.Interp) :
  ReturnsInHanded {} Tryz.checked os 6 .any ((Rows.OpenSpec.upto Rows.regionOnceSpec).pre6 enc Tryz.prog Tryz.f6 Rows.regionOnceUptoRow.domain false) (((Rows.OpenSpec.upto Rows.regionOnceSpec).at F).post enc Tryz.prog Tryz.f6 false true false false):=by
 refine returnsInHanded_of_cond (C:=Tryz.checked) (s:=Rows.OpenSpec.upto Rows.regionOnceSpec) (k:=Rows.uptoSmall) rfl own1 started (by kernel_rfl) Tryz.func6
  (OpenSpec.witness (enc:=enc) (C:=Tryz.checked) (s:=Rows.OpenSpec.upto Rows.regionOnceSpec) (k:=Rows.uptoSmall) rfl false ⟨#[],#[.agg #[.slice none 0 0,.slice none 0 0,.int .i64 0],.int .i64 0],[]⟩ 8 (by kernel_rfl) (by kernel_rfl) (by kernel_rfl)
   (x:=([.agg [.nil,.nil,.lit (.int .i64 0)],.lit (.int .i64 0)],[],[])) (by kernel_rfl) rfl (by kernel_rfl)) ?_
 intro W base args ds gs before hval0 hW _ hk _
 have hval:∀ (j:Nat) t v,Tryz.f6.params[j]?=some t→args[j]?=some v→Value.okWide Tryz.prog W .any base t v:=hval0
 have hW':=hW
 obtain ⟨p,q,hA0,hV,rfl,hfz,hnd⟩:=hW
 have hA:DataW.TrodAll enc Tryz.prog W 0 (fun _=>true) true Tryz.f6.params.toList args.toList ds p:=hA0
 rw [Tryz.params6] at hA hval
 obtain ⟨v0,vs0,d0,ds0,p0,q0,hargs,rfl,rfl,h0,r0⟩:=trodAll_cons hA
 obtain ⟨v1,vs1,d1,ds1,p1,q1,hargs1,rfl,rfl,h1,r1⟩:=trodAll_cons r0
 obtain ⟨rfl,rfl,rfl⟩:=trodAll_nil r1
 obtain rfl:args=#[v0,v1]:=by cases args;simp_all
 obtain ⟨rfl,rfl⟩:=trodVars_none hV
 have k0:=h0
 have k1:=h1
 have lt0:∀ x∈p0,x.block<W.heap.size:=by obtain ⟨m,hm⟩:=k0;exact DataW.trod_lt m _ _ _ hm
 have lt1:∀ x∈p1,x.block<W.heap.size:=by obtain ⟨m,hm⟩:=k1;exact DataW.trod_lt m _ _ _ hm
 have hbk:Rows.uptoBulk d0≤1048576:=by
  have:=of_decide_eq_true hk
  simp only [List.append_nil,Rows.uptoBulkAll] at this
  omega
 obtain ⟨a,n,cap,ua,un,ucap,mn,ss,gs,rfl,hSt,hU⟩:=unitO (hval 0 25 v0 rfl rfl) h0 hbk
 obtain ⟨fn,rfl,rfl,rfl,w1⟩:=open_int Tryz.underlying3 (hval 1 3 v1 rfl rfl) h1
 clear hA0 hval0
 refine (once_walk (ucap:=ucap) (mn:=mn) fn hSt hU).mono fun e W' ⟨he,bel⟩=>?_
 subst he
 exact ⟨_,rfl,_,_,_,[],_,[],hW',trodAll_mk1 (shut_bool Tryz.underlying4 _),(trodAll_cons_mk (Below.trod laidOut1 (by kernel_rfl) (of_decide_eq_true (by kernel_rfl)) k0 bel lt0) (trodAll_cons_mk (Below.trod laidOut1 (by kernel_rfl) (of_decide_eq_true (by kernel_rfl)) k1 bel lt1) trodAll_mk0)),rfl,bel.frame _,fun h=>by cases h⟩
theorem regionOnce_holds:Rows.RegionOnceUptoSaid :=
 OpenClaim.holds_of_cond 6 Tryz.f6 rfl rfl rfl rfl rfl rfl rfl ⟨rfl,rfl,rfl,rfl,rfl⟩ rfl rfl rfl rfl rfl (by kernel_rfl) Tryz.func6 (by kernel_rfl)
  (of_decide_eq_true (by kernel_rfl)) (by unfold Func.isWrapper;first|(rw [if_pos (by decide +kernel)];kernel_rfl)|(rw [if_neg (by decide +kernel)];exact ⟨rfl,rfl⟩))
  (fun os started H enc _ F=>regionOnce_lifted os started H enc F)
#print axioms regionOnce_holds
end Go.Proofs.YtdlggpcakaofoaaGreat
