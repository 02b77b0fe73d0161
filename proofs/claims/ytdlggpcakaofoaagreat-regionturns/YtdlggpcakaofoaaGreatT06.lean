/-
  RegionTurns returns true for every type and every list of numbers, and leaves them as they were: the row of 'loanwordlaw13.RegionTurns'. No condition beyond the statement's own.
-/
import Derived.Test.YtdlggpcakaofoaaGreatT05
namespace Go.Proofs.YtdlggpcakaofoaaGreat
open Go.ChangeShapes Go.WideShapes Go.ChangeAt Go.RowKit Go.Joins Go.Shelf
set_option linter.unusedVariables false
set_option linter.unusedSimpArgs false
set_option maxRecDepth 100000
theorem open_ints {H:Type} {enc:TypeId × Value→H} {W:World} {base:Nat} {sp:Nat→Bool} {held:Bool} (n:Nat) (cs:List Value) (x:DataW H × List MemPlace) (h:DataW.trod enc Tryz.prog W base sp held n 33 cs=some x):∃ a n cap X,cs=[.slice a n cap]∧IntR W a n cap X:=by
 obtain ⟨a,len,cap,ys,hcs,hR⟩:=open_row (W:=W) (fun x:Int=>[.int .i64 x]) (fun x=>-9223372036854775808≤x∧x≤9223372036854775807) Tryz.underlying33 cO.1 (by decide) (fun _=>rfl) (fun m cs x h=>by
  obtain ⟨z,q0,-,w0⟩:=DataW.trod_int Tryz.underlying3 h
  simp [Lit.wf,IntKind.min,IntKind.max,IntKind.signed,IntKind.bits] at w0
  exact ⟨z,q0,by omega⟩) n cs x h
 refine ⟨a,len,cap,ys,hcs,hR.len,hR.le,hR.big,fun hne=>?_,fun z hz=>?_,hR.nil⟩
 ·obtain ⟨z,hz⟩:∃ z,ys[0]?=some z:=⟨_,List.getElem?_eq_getElem (List.length_pos_iff.2 hne)⟩
  obtain ⟨-,g,off,ea,hg,-⟩:=hR.at_ 0 z hz
  refine ⟨g,off,ea,hg,fun i x hi=>?_⟩
  obtain ⟨-,g',off',ea',-,hr⟩:=hR.at_ i x hi
  rw [ea] at ea'
  cases ea'
  have:=hr 0 _ rfl
  rwa [Nat.mul_one,Nat.add_zero] at this
 ·obtain ⟨i,hi⟩:=List.getElem?_of_mem hz
  exact (hR.at_ i z hi).1
theorem open_type {H:Type} {enc:TypeId × Value→H} {W:World} {r:Reach} {b0 base:Nat} {v:Value} {d:DataW H} {p:List MemPlace} {held:Bool} (hval:Value.okWide Tryz.prog W r b0 46 v) (h:DataW.Trod enc Tryz.prog W base (fun _=>true) held 46 v d p) :
  ∃ (f:Fv) (t:Ty),v=f.v∧TyAt W f t:=by
 obtain ⟨cs,rfl,hsz⟩:=okWide_struct Tryz.underlying46 hval
 rw [show Tryz.prog.cellsOf 46=5 by kernel_rfl] at hsz
 obtain ⟨fuel,hf⟩:=h
 obtain ⟨f,t,hcs,ht⟩:=open_ty fuel _ _ hf
 refine ⟨f,t,?_,ht⟩
 obtain ⟨l⟩:=cs
 match l,hsz with
 | [c0,c1,c2,c3,c4],_ =>
  simp [Value.cells] at hcs
  obtain ⟨rfl,rfl,rfl,rfl,rfl⟩:=hcs
  rfl
theorem open_list {H:Type} {enc:TypeId × Value→H} {W:World} {r:Reach} {b0 base:Nat} {v:Value} {d:DataW H} {p:List MemPlace} {held:Bool} (hval:Value.okWide Tryz.prog W r b0 33 v) (h:DataW.Trod enc Tryz.prog W base (fun _=>true) held 33 v d p) :
  ∃ a n cap X,v=.slice a n cap∧IntR W a n cap X:=by
 obtain ⟨a0,len0,cap0,rfl⟩:=okWide_slice Tryz.underlying33 hval
 obtain ⟨fuel,hf⟩:=h
 obtain ⟨a,n,cap,X,hcs,hI⟩:=open_ints fuel _ _ hf
 simp [Value.cells] at hcs
 obtain ⟨rfl,rfl,rfl⟩:=hcs
 exact ⟨_,_,_,X,rfl,hI⟩
theorem turns_walk (t:Ty) (f:Fv) (xa:Option Addr) (xn xcap:Nat) (X:List Int) (w:World) (h:TyAt w f t) (hI:IntR w xa xn xcap X):Calls Tryz.prog 5 #[f.v,.slice xa xn xcap] w fun e w'=>e=.returned (.bool true)∧Below w.heap.size w w':=by
 obtain ⟨b,hF⟩:=fits_ex 60 60 rfl (by decide) t
 cases b with
 | false=>exact turns_big1 t f _ w h hF
 | true =>
  rcases Nat.lt_or_ge 600 xn with hn|hn
  ·exact turns_big2 t f xa xn xcap w h hF hn
  ·obtain ⟨is,no,C,E,T⟩:=tb_ex t f xa xn xcap X w h hI hn
   exact turns_main t f xa xn xcap X w h hF hI hn is no C E T
theorem laidOut:laidOutB Tryz.prog=true:=by kernel_rfl
theorem Tryz.params5:Tryz.f5.params=#[46,33]:=rfl
theorem regionTurns_lifted (os:Os) (started:os.Started) (H:Type) (enc:TypeId × Value→H) :
  ReturnsInHanded {} Tryz.checked os 5 .any (Rows.regionTurnsSpec.pre6 enc Tryz.prog Tryz.f5 Rows.regionTurnsRow.domain false) (Rows.regionTurnsSpec.post enc Tryz.prog Tryz.f5 false true false false):=by
 refine returnsInHanded_of_change (C:=Tryz.checked) own started (by kernel_rfl) Tryz.func5
  (ChangeSpec.witness6 (enc:=enc) (C:=Tryz.checked) false ⟨#[],#[.agg #[.int .u8 0,.bool false,.int .i64 0,.int .i64 0,.slice none 0 0],.slice none 0 0],[]⟩ 8 (by kernel_rfl) (by kernel_rfl) (by kernel_rfl) (by kernel_rfl)) ?_
 intro W base args ds gs before hval0 hW hcnd0 _
 have hval:∀ (j:Nat) t v,Tryz.f5.params[j]?=some t→args[j]?=some v→Value.okWide Tryz.prog W .any base t v:=hval0
 have hW':=hW
 obtain ⟨p,q,hA0,hV,rfl,hfz,hnd⟩:=hW
 have hA:DataW.TrodAll enc Tryz.prog W 0 (fun _=>true) true Tryz.f5.params.toList args.toList ds p:=hA0
 rw [Tryz.params5] at hA hval
 obtain ⟨v0,vs0,d0,ds0,p0,q0,hargs,rfl,rfl,h0,r0⟩:=trodAll_cons hA
 obtain ⟨v1,vs1,d1,ds1,p1,q1,hargs1,rfl,rfl,h1,r1⟩:=trodAll_cons r0
 obtain ⟨rfl,rfl,rfl⟩:=trodAll_nil r1
 obtain rfl:args=#[v0,v1]:=by cases args;simp_all
 obtain ⟨rfl,rfl⟩:=trodVars_none hV
 have k0:=h0
 have k1:=h1
 have lt0:∀ x∈p0,x.block<W.heap.size:=by obtain ⟨m,hm⟩:=k0;exact DataW.trod_lt m _ _ _ hm
 have lt1:∀ x∈p1,x.block<W.heap.size:=by obtain ⟨m,hm⟩:=k1;exact DataW.trod_lt m _ _ _ hm
 obtain ⟨f,t,rfl,hT⟩:=open_type (hval 0 46 v0 rfl rfl) h0
 obtain ⟨a,n,cap,X,rfl,hI⟩:=open_list (hval 1 33 v1 rfl rfl) h1
 clear hA0 hval0
 refine (turns_walk t f a n cap X W hT hI).mono fun e W' ⟨he,bel⟩=>?_
 subst he
 exact ⟨_,rfl,_,_,_,[],_,[],hW',trodAll_mk1 (shut_bool Tryz.underlying4 _),(trodAll_cons_mk (Below.trod laidOut (by kernel_rfl) (of_decide_eq_true (by kernel_rfl)) k0 bel lt0) (trodAll_cons_mk (Below.trod laidOut (by kernel_rfl) (of_decide_eq_true (by kernel_rfl)) k1 bel lt1) trodAll_mk0)),rfl,bel.frame _,fun h=>by cases h⟩
theorem regionTurns_holds:Rows.RegionTurnsSaid :=
 OpenClaim.holds_of_wide 5 Tryz.f5 rfl rfl rfl rfl rfl rfl rfl ⟨rfl,rfl,rfl,rfl,rfl⟩ rfl rfl rfl rfl rfl (by kernel_rfl) Tryz.func5 (by kernel_rfl)
  (of_decide_eq_true (by kernel_rfl)) (by unfold Func.isWrapper;first|(rw [if_pos (by decide +kernel)];kernel_rfl)|(rw [if_neg (by decide +kernel)];exact ⟨rfl,rfl⟩))
  (fun os started H enc _=>regionTurns_lifted os started H enc)
#print axioms regionTurns_holds
end Go.Proofs.YtdlggpcakaofoaaGreat
