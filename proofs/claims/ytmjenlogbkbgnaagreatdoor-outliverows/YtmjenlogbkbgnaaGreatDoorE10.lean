import Derived.Test.YtmjenlogbkbgnaaGreatDoorB27
import Derived.Test.YtmjenlogbkbgnaaGreatDoorE01
import Derived.Test.YtmjenlogbkbgnaaGreatDoorTie
import Derived.Test.YtmjenlogbkbgnaaGreatDoorCards
import Derived.ChangeSame
import Derived.Deep.Strs
import Derived.Lib.SmallJoins
import Derived.Lib.LaidTab
import Derived.ProofKit
import Derived.OpenShut
import Derived.ShutString
import Derived.ChangeOld
import Derived.ChangeMaps5
import Derived.ChangeSlices
import Derived.Below
import Derived.LaidMore
import Derived.Stop.Joined
import Derived.SevenTiedAt
import Derived.HandedShaped
import Derived.Lay
import Derived.MakeChecks
import Derived.Deep.Slices
namespace Go.Proofs.YtmjenlogbkbgnaaGreatDoor
open Go.ChangeShapes Go.WideShapes Go.ChangeAt Go.RowKit Go.Joins Go.Shelf Go.WideElems Go.Maps
set_option linter.unusedVariables false
set_option linter.unusedSimpArgs false
set_option maxRecDepth 100000
set_option maxHeartbeats 8000000
theorem trod_fld {H:Type} {enc:TypeId × Value→H} {W:World} {base:Nat} {sp:Nat→Bool} {held:Bool} {t:TypeId} {fs:Array Field} {fuel:Nat} {cs:List Value} {x:DataW H × List MemPlace} (ht:Tryz.prog.underlying t=some (.struct fs)) (h:DataW.trod enc Tryz.prog W base sp held fuel t cs=some x) :
  ∃ n,fuel=n+1∧cs.length=Tryz.prog.cellsOf t∧∀ (i:Nat) (f:Field),fs[i]?=some f→∃ y,DataW.trod enc Tryz.prog W base sp held n f.type ((cs.drop f.offset).take (Tryz.prog.cellsOf f.type))=some y:=by
 obtain ⟨xs,n,hfu,-,hl,hlen,hf⟩:=DataW.trod_struct ht h
 refine ⟨n,hfu,hl,fun i f hi=>?_⟩
 have hlt:i<xs.length:=by rw [hlen];have:=(Array.getElem?_eq_some_iff.1 hi).1;exact this
 exact ⟨xs[i],by rw [hf i f hi,List.getElem?_eq_getElem hlt]⟩
theorem open_row {H:Type} {enc:TypeId × Value→H} {W:World} {base:Nat} {sp:Nat→Bool} {held:Bool} {t e s:Nat} {Y:Type} (cells:Y→List Value) (Good:Y→Prop) (hu:Tryz.prog.underlying t=some (.slice e)) (hs:Tryz.prog.cellsOf e=s) (h0:0<s) (hlen:∀ y,(cells y).length=s)
  (hel:∀ (m:Nat) (cs:List Value) (x:DataW H × List MemPlace),DataW.trod enc Tryz.prog W base sp held m e cs=some x→∃ y,cs=cells y∧Good y) (n:Nat) (cs:List Value) (x:DataW H × List MemPlace) (h:DataW.trod enc Tryz.prog W base sp held n t cs=some x) :
  ∃ a len cap ys,cs=[.slice a len cap]∧RowA W a len cap s cells Good ys:=by
 rcases DataW.trod_slice hu h with ⟨hcs,_⟩|⟨a,len0,cap0,elems,rest,m2,hm2,hcs,_,hb,hl,hc,hel2,hx,_,_⟩
 ·exact ⟨none,0,0,[],hcs,RowA.nul _ _ _ _⟩
 ·rw [hs] at hx
  obtain ⟨ys,h1,h2⟩:=list_pick (List.range len0) (fun i _ (y:Y)=>Good y∧∀ (j:Nat) (v:Value),(cells y)[j]?=some v→W.cell? (a.add (i*s+j))=some v) (fun i k hi=>by
   have hi2:i<len0:=by simpa using (List.getElem?_eq_some_iff.1 hi).1
   have hxi:=hx i hi2
   rw [List.getElem?_eq_getElem (by omega),Option.bind_eq_some_iff] at hxi
   obtain ⟨cs',hc1,hc2⟩:=hxi
   obtain ⟨y,rfl,hy⟩:=hel _ _ _ hc2
   obtain ⟨_,hln,hcell⟩:=World.cells?_some hc1
   refine ⟨y,hy,fun j v hv=>?_⟩
   have hj:j<s:=by have:=(List.getElem?_eq_some_iff.1 hv).1;rw [hlen] at this;exact this
   have g0:=hcell j (by omega)
   rw [Deep.add_add] at g0
   rw [g0]
   simpa using hv)
  rw [List.length_range] at h1
  refine ⟨some a,len0,cap0,ys,hcs,h1.symm,hl,hc,(fun e=>by cases e),fun i y hy=>?_⟩
  have hi2:i<len0:=by have:=(List.getElem?_eq_some_iff.1 hy).1;omega
  obtain ⟨y',h3,h4,h5⟩:=h2 i i (by rw [List.getElem?_range hi2])
  rw [hy] at h3
  cases h3
  obtain ⟨b,off,spot⟩:=a
  obtain ⟨y0,h30,h40,h50⟩:=h2 0 0 (by rw [List.getElem?_range (by omega)])
  obtain ⟨v0,hv0⟩:∃ v,(cells y0)[0]?=some v:=⟨_,List.getElem?_eq_getElem (by rw [hlen];exact h0)⟩
  have hc0:=h50 0 v0 hv0
  rw [Nat.zero_mul] at hc0
  have hspot:spot=none:=by simpa [Addr.add] using World.cell?_spot hc0
  subst hspot
  refine ⟨h4,b,off,rfl,?_,fun j v hv=>?_⟩
  ·rw [Addr.add_lit] at hc0
   exact World.block_lt_of_cell? W _ hc0
  ·have:=h5 j v hv
   rw [Addr.add_lit,← Nat.add_assoc] at this
   exact this
theorem cQ:Tryz.prog.cellsOf 3=1∧Tryz.prog.cellsOf 36=2∧Tryz.prog.cellsOf 28=1∧Tryz.prog.cellsOf 48=2∧Tryz.prog.cellsOf 46=1∧Tryz.prog.cellsOf 144=1∧Tryz.prog.cellsOf 44=1:=by
 refine ⟨by kernel_rfl,by kernel_rfl,by kernel_rfl,by kernel_rfl,by kernel_rfl,by kernel_rfl,by kernel_rfl⟩
theorem open_prs {H:Type} {enc:TypeId × Value→H} {W:World} {base:Nat} {sp:Nat→Bool} {held:Bool} (n:Nat) (cs:List Value) (x:DataW H × List MemPlace) (h:DataW.trod enc Tryz.prog W base sp held n 28 cs=some x):∃ a m cap l,cs=[.slice a m cap]∧PrR W a m cap l:=by
 obtain ⟨a,len,cap,ys,hcs,hR⟩:=open_row (W:=W) (fun p:Int × Int=>[.int .i64 p.1,.int .i64 p.2]) (fun _=>True) Tryz.underlying28 cQ.2.1 (by decide) (fun _=>rfl) (fun m cs x h=>by
  obtain ⟨m,hm,hlen,hf⟩:=trod_fld Tryz.underlying36 h
  rw [cQ.2.1] at hlen
  match cs,hlen with
  | [c0,c1],_ =>
   obtain ⟨x0,hx0⟩:∃ y,DataW.trod enc Tryz.prog W base sp held m 3 [c0]=some y:=by have:=hf 0 _ rfl;simpa [cQ.1] using this
   obtain ⟨x1,hx1⟩:∃ y,DataW.trod enc Tryz.prog W base sp held m 3 [c1]=some y:=by have:=hf 1 _ rfl;simpa [cQ.1] using this
   obtain ⟨z0,q0,-,w0⟩:=DataW.trod_int Tryz.underlying3 hx0
   obtain ⟨z1,q1,-,w1⟩:=DataW.trod_int Tryz.underlying3 hx1
   cases q0
   cases q1
   exact ⟨(z0,z1),rfl,trivial⟩) n cs x h
 refine ⟨a,len,cap,ys,hcs,hR.len,Nat.le_trans hR.le hR.big,fun hne=>?_⟩
 obtain ⟨z,hz⟩:∃ z,ys[0]?=some z:=⟨_,List.getElem?_eq_getElem (List.length_pos_iff.2 hne)⟩
 obtain ⟨-,g,off,ea,hg,-⟩:=hR.at_ 0 z hz
 refine ⟨g,off,ea,hg,fun i p hi=>?_⟩
 obtain ⟨-,g',off',ea',-,hr⟩:=hR.at_ i p hi
 rw [ea] at ea'
 cases ea'
 have h0:=hr 0 _ rfl
 have h1:=hr 1 _ rfl
 rw [Nat.add_zero] at h0
 exact ⟨h0,h1⟩
theorem open_words {H:Type} {enc:TypeId × Value→H} {W:World} {base:Nat} {sp:Nat→Bool} {held:Bool} (n:Nat) (cs:List Value) (x:DataW H × List MemPlace) (h:DataW.trod enc Tryz.prog W base sp held n 46 cs=some x):∃ a cap zs,cs=[.slice a zs.length cap]∧zs.length≤maxLen∧(∀ z∈zs,0≤z∧z<18446744073709551616)∧WCells W a zs:=by
 obtain ⟨a,len,cap,ys,hcs,hR⟩:=open_row (W:=W) (fun x:Int=>[.int .u64 x]) (fun x=>0≤x∧x<18446744073709551616) Tryz.underlying46 cQ.2.2.2.2.2.1 (by decide) (fun _=>rfl) (fun m cs x h=>by
  obtain ⟨z,q0,-,w0⟩:=DataW.trod_int Tryz.underlying144 h
  simp [Lit.wf,IntKind.min,IntKind.max,IntKind.signed,IntKind.bits] at w0
  exact ⟨z,q0,by omega⟩) n cs x h
 have hl:=hR.len
 subst hl
 refine ⟨a,cap,ys,hcs,Nat.le_trans hR.le hR.big,fun z hz=>?_,fun hne=>?_⟩
 ·obtain ⟨i,hi⟩:=List.getElem?_of_mem hz
  exact (hR.at_ i z hi).1
 ·obtain ⟨z,hz⟩:∃ z,ys[0]?=some z:=⟨_,List.getElem?_eq_getElem (List.length_pos_iff.2 hne)⟩
  obtain ⟨-,g,off,ea,hg,-⟩:=hR.at_ 0 z hz
  refine ⟨g,off,ea,hg,fun i x hi=>?_⟩
  obtain ⟨-,g',off',ea',-,hr⟩:=hR.at_ i x hi
  rw [ea] at ea'
  cases ea'
  have:=hr 0 _ rfl
  rwa [Nat.mul_one,Nat.add_zero] at this
theorem open_rws {H:Type} {enc:TypeId × Value→H} {W:World} {base:Nat} {sp:Nat→Bool} {held:Bool} (n:Nat) (cs:List Value) (x:DataW H × List MemPlace) (h:DataW.trod enc Tryz.prog W base sp held n 44 cs=some x):∃ a m cap R,cs=[.slice a m cap]∧RsR W a m cap R:=by
 obtain ⟨a,len,cap,ys,hcs,hR⟩:=open_row (W:=W) (fun r:Rw=>[.int .i64 r.x,.slice r.a r.zs.length r.cap]) (fun r=>RwAt W r) Tryz.underlying44 cQ.2.2.2.1 (by decide) (fun _=>rfl) (fun m cs x h=>by
  obtain ⟨m,hm,hlen,hf⟩:=trod_fld Tryz.underlying48 h
  rw [cQ.2.2.2.1] at hlen
  match cs,hlen with
  | [c0,c1],_ =>
   obtain ⟨x0,hx0⟩:∃ y,DataW.trod enc Tryz.prog W base sp held m 3 [c0]=some y:=by have:=hf 0 _ rfl;simpa [cQ.1] using this
   obtain ⟨x1,hx1⟩:∃ y,DataW.trod enc Tryz.prog W base sp held m 46 [c1]=some y:=by have:=hf 1 _ rfl;simpa [cQ.2.2.2.2.1] using this
   obtain ⟨z0,q0,-,w0⟩:=DataW.trod_int Tryz.underlying3 hx0
   simp [Lit.wf,IntKind.min,IntKind.max,IntKind.signed,IntKind.bits] at w0
   obtain ⟨a,cap,zs,q1,hb,hw,hc⟩:=open_words _ _ _ hx1
   cases q0
   cases q1
   exact ⟨⟨z0,a,cap,zs⟩,rfl,⟨by show (-9223372036854775808:Int)≤z0;omega,by show z0≤(9223372036854775807:Int);omega,hb,hw,hc⟩⟩) n cs x h
 refine ⟨a,len,cap,ys,hcs,hR.len,Nat.le_trans hR.le hR.big,fun hne=>?_,fun r hr=>?_⟩
 ·obtain ⟨z,hz⟩:∃ z,ys[0]?=some z:=⟨_,List.getElem?_eq_getElem (List.length_pos_iff.2 hne)⟩
  obtain ⟨-,g,off,ea,hg,-⟩:=hR.at_ 0 z hz
  refine ⟨g,off,ea,hg,fun i p hi=>?_⟩
  obtain ⟨-,g',off',ea',-,hr⟩:=hR.at_ i p hi
  rw [ea] at ea'
  cases ea'
  have h0:=hr 0 _ rfl
  have h1:=hr 1 _ rfl
  rw [Nat.add_zero] at h0
  exact ⟨h0,h1⟩
 ·obtain ⟨i,hi⟩:=List.getElem?_of_mem hr
  exact (hR.at_ i r hi).1
theorem own:ownKnob Tryz.prog.godebug=none:=by kernel_rfl
theorem laidOutZ:laidOutB Tryz.prog=true:=by kernel_rfl
theorem lift_shaped {H:Type} {enc:TypeId × Value→H} {a:Assume} {C:Checked} {os:Os} {f:FuncId} {fn:Func} {s:ChangeSpec} {conds:List PathCond} {apart fresh handsOn again:Bool} {X:World→Array Value→Prop}
  (hX:∀ (w w':World) (args:Array Value),w.heap=w'.heap→X w args→X w' args)
  (own:ownKnob C.prog.godebug=none) (started:os.Started) (noInit:C.prog.inits.idxOf? f=none) (hfn:C.prog.funcs[f]?=some fn)
  (witness:∃ (w:World) (tape:Tape) (i:Input),w.os=os∧(w.forCall tape i).Shaped C.prog∧i.vars=[]∧Input.okWide C.prog (w.forCall tape i) .any w.heap.size f i ∧
   ((s.pre enc C.prog fn conds apart (w.forCall tape i).memory i.args∧X (w.forCall tape i).memory i.args)∧sizedMet enc C.prog fn (OpenSpec.ofChange s) apart (w.forCall tape i).memory i.args)∧a.holds C.prog (lone (Frame.enter C.prog f i.args .normal) [] (w.forCall tape i)))
  (contract:∀ (W:World) (base:Nat) (args:Array Value) (ds gs:List (DataW H)) (before:List MemPlace),
   (∀ (j:Nat) t v,fn.params[j]?=some t→args[j]?=some v→Value.okWide C.prog W .any base t v) →
   DataW.Whole enc C.prog fn.params.toList s.vars apart W args.toList ds gs before→X W args→W.ShapedOpen C.prog →
   Calls C.prog f args W fun e W'=>∃ v,e=.returned v∧s.post enc C.prog fn apart fresh handsOn again W args v W') :
  ReturnsInHanded a C os f .any (fun w args=>(s.pre enc C.prog fn conds apart w args∧X w args)∧sizedMet enc C.prog fn (OpenSpec.ofChange s) apart w args) (s.post enc C.prog fn apart fresh handsOn again):=by
 apply returnsInHanded_of_calls own started noInit witness
 rintro w tape i - shape - ok ⟨⟨⟨ds,gs,before,whole,-⟩,x⟩,-⟩ -
 obtain ⟨_,_,_,fn',is,_,_,_,_,vals⟩:=ok
 cases Option.some.inj (is.symm.trans hfn)
 refine (contract (w.forCall tape i) w.heap.size i.args ds gs before vals (whole.of_heap (w':=w.forCall tape i) (by rfl)) (hX _ _ _ (by rfl) x) shape).mono ?_
 rintro e W' ⟨v,rfl,post⟩
 exact ChangeSpec.post_blind post
abbrev laidT:List (String × DataW Unit):=[("math/bits.deBruijn64tab",Rows.laid_math_bits_deBruijn64tab)]
theorem door_metT (os:Os) (args:Array Value):laidMetH Tryz.prog laidT ((World.laidAll Tryz.prog os laidT).forCall (fun _ _=>0) ⟨#[],args,[]⟩).memory:=by
 rw [MakeChecks.laidMetH_plain _ _ _ (by kernel_rfl)]
 exact laidMet_laidAll _ (by kernel_rfl) (by kernel_rfl)
def tabInts:List Int:=Lib.deBruijn64tab.map fun (n:Nat)=>(n:Int)
theorem laid_tab:(Rows.laid_math_bits_deBruijn64tab:DataW Unit)=Lib.tabData .u8 tabInts:=by kernel_rfl
theorem tab_of_laid {W:World} (hL:laidMetH Tryz.prog laidT W):TabZ W:=by
 have h:laidMet Tryz.prog laidT W:=hL
 have h':laidMet Tryz.prog [("math/bits.deBruijn64tab",Lib.tabData .u8 tabInts)] W:=by
  rw [← laid_tab];exact h
 have hT:=Lib.tabIs_of_head (g:=0) (t:=170) (e:=5) (n:=64) (by kernel_rfl) (by kernel_rfl) Tryz.underlying170 Tryz.underlying5 (by kernel_rfl) (by kernel_rfl) h'
 have hl:tabInts.length=64:=by decide
 intro j hj'
 have hl2:Lib.deBruijn64tab.length=64:=by decide
 have hj:j<64:=by omega
 have:=hT.cell (g:=0) (by kernel_rfl) j (by omega)
 rw [this]
 have e:tabInts.getD j 0=((Lib.deBruijn64tab.getD j 0:Nat):Int):=by
  unfold tabInts
  simp [hj']
 rw [e]
theorem open_prsV {H:Type} {enc:TypeId × Value→H} {W:World} {r:Reach} {b0 base:Nat} {v:Value} {d:DataW H} {p:List MemPlace} {held:Bool} (hval:Value.okWide Tryz.prog W r b0 28 v) (h:DataW.Trod enc Tryz.prog W base (fun _=>true) held 28 v d p) :
  ∃ a m cap l,v=.slice a m cap∧PrR W a m cap l:=by
 obtain ⟨a0,len0,cap0,rfl⟩:=okWide_slice Tryz.underlying28 hval
 obtain ⟨fuel,hf⟩:=h
 obtain ⟨a,m,cap,l,hcs,hP⟩:=open_prs fuel _ _ hf
 simp [Value.cells] at hcs
 obtain ⟨rfl,rfl,rfl⟩:=hcs
 exact ⟨_,_,_,l,rfl,hP⟩
theorem open_rwsV {H:Type} {enc:TypeId × Value→H} {W:World} {r:Reach} {b0 base:Nat} {v:Value} {d:DataW H} {p:List MemPlace} {held:Bool} (hval:Value.okWide Tryz.prog W r b0 44 v) (h:DataW.Trod enc Tryz.prog W base (fun _=>true) held 44 v d p) :
  ∃ a m cap R,v=.slice a m cap∧RsR W a m cap R:=by
 obtain ⟨a0,len0,cap0,rfl⟩:=okWide_slice Tryz.underlying44 hval
 obtain ⟨fuel,hf⟩:=h
 obtain ⟨a,m,cap,l,hcs,hP⟩:=open_rws fuel _ _ hf
 simp [Value.cells] at hcs
 obtain ⟨rfl,rfl,rfl⟩:=hcs
 exact ⟨_,_,_,l,rfl,hP⟩
theorem open_type {H:Type} {enc:TypeId × Value→H} {W:World} {r:Reach} {b0 base:Nat} {v:Value} {d:DataW H} {p:List MemPlace} {held:Bool} (hval:Value.okWide Tryz.prog W r b0 43 v) (h:DataW.Trod enc Tryz.prog W base (fun _=>true) held 43 v d p) :
  ∃ (f:Fv) (t:Ty),v=f.v∧TyAt W f t:=by
 obtain ⟨cs,rfl,hsz⟩:=okWide_struct Tryz.underlying43 hval
 rw [show Tryz.prog.cellsOf 43=5 by kernel_rfl] at hsz
 obtain ⟨fuel,hf⟩:=h
 obtain ⟨f,t,hcs,ht⟩:=open_ty fuel _ _ hf
 refine ⟨f,t,?_,ht⟩
 obtain ⟨l⟩:=cs
 match l,hsz with
 | [c0,c1,c2,c3,c4],_ =>
  simp [Value.cells] at hcs
  obtain ⟨rfl,rfl,rfl,rfl,rfl⟩:=hcs
  rfl
def RWalk:Prop:=∀ (t u:Ty) (f g:Fv) (a:Option Addr) (m cap:Nat) (l:List (Int × Int)) (b:Option Addr) (n cap2:Nat) (R:List Rw) (c q:Int) (w:World),TyAt w f t→TyAt w g u→PrR w a m cap l→RsR w b n cap2 R→TabZ w→Calls Tryz.prog 4 #[f.v,g.v,.slice a m cap,.slice b n cap2,.int .i64 c,.int .i64 q] w fun e w'=>e=.returned (.bool true)∧Below w.heap.size w w'
theorem Tryz.params4:Tryz.f4.params=#[43,43,28,44,3,3]:=rfl
theorem outliveRows_lifted (rows_walk:RWalk) (os:Os) (started:os.Started) (H:Type) (enc:TypeId × Value→H) :
  ReturnsInHanded {} Tryz.checked os 4 .any (fun w args=>(Rows.outliveRowsSpec.pre enc Tryz.prog Tryz.f4 [] false w args∧laidMetH Tryz.prog laidT w)∧sizedMet enc Tryz.prog Tryz.f4 (OpenSpec.ofChange Rows.outliveRowsSpec) false w args)
   (Rows.outliveRowsSpec.post enc Tryz.prog Tryz.f4 false true false false):=by
 refine lift_shaped (C:=Tryz.checked) (X:=fun w _=>laidMetH Tryz.prog laidT w) (fun _ _ _ hh h=>h.of_heap hh) own started (by kernel_rfl) Tryz.func4
  (ChangeSpec.witness_shaped (enc:=enc) (C:=Tryz.checked) (os:=os) (X:=fun w _=>laidMetH Tryz.prog laidT w) false (World.laidAll Tryz.prog os laidT) #[.agg #[.int .u8 0,.bool false,.int .i64 0,.int .i64 0,.slice none 0 0],.agg #[.int .u8 0,.bool false,.int .i64 0,.int .i64 0,.slice none 0 0],.slice none 0 0,.slice none 0 0,.int .i64 0,.int .i64 0] 8 (World.laidAll_os _ _ _) (World.shaped_of_ZipB (by kernel_rfl) (by kernel_rfl)) (by kernel_rfl) (by kernel_rfl) (by kernel_rfl) (door_metT os _)) ?_
 intro W base args ds gs before hval0 hW hL hsh
 have hval:∀ (j:Nat) t v,Tryz.f4.params[j]?=some t→args[j]?=some v→Value.okWide Tryz.prog W .any base t v:=hval0
 have hW':=hW
 obtain ⟨p,q,hA0,hV,rfl,hfz,hnd⟩:=hW
 have hA:DataW.TrodAll enc Tryz.prog W 0 (fun _=>true) true Tryz.f4.params.toList args.toList ds p:=hA0
 rw [Tryz.params4] at hA hval
 obtain ⟨v0,vs0,d0,ds0,p0,q0,hargs,rfl,rfl,h0,r0⟩:=trodAll_cons hA
 obtain ⟨v1,vs1,d1,ds1,p1,q1,rfl,rfl,rfl,h1,r1⟩:=trodAll_cons r0
 obtain ⟨v2,vs2,d2,ds2,p2,q2,rfl,rfl,rfl,h2,r2⟩:=trodAll_cons r1
 obtain ⟨v3,vs3,d3,ds3,p3,q3,rfl,rfl,rfl,h3,r3⟩:=trodAll_cons r2
 obtain ⟨v4,vs4,d4,ds4,p4,q4,rfl,rfl,rfl,h4,r4⟩:=trodAll_cons r3
 obtain ⟨v5,vs5,d5,ds5,p5,q5,rfl,rfl,rfl,h5,r5⟩:=trodAll_cons r4
 obtain ⟨rfl,rfl,rfl⟩:=trodAll_nil r5
 obtain rfl:args=#[v0,v1,v2,v3,v4,v5]:=by cases args;simp_all
 obtain ⟨rfl,rfl⟩:=trodVars_none hV
 have k0:=h0
 have k1:=h1
 have k2:=h2
 have k3:=h3
 have k4:=h4
 have k5:=h5
 have lt0:∀ x∈p0,x.block<W.heap.size:=by obtain ⟨m,hm⟩:=k0;exact DataW.trod_lt m _ _ _ hm
 have lt1:∀ x∈p1,x.block<W.heap.size:=by obtain ⟨m,hm⟩:=k1;exact DataW.trod_lt m _ _ _ hm
 have lt2:∀ x∈p2,x.block<W.heap.size:=by obtain ⟨m,hm⟩:=k2;exact DataW.trod_lt m _ _ _ hm
 have lt3:∀ x∈p3,x.block<W.heap.size:=by obtain ⟨m,hm⟩:=k3;exact DataW.trod_lt m _ _ _ hm
 have lt4:∀ x∈p4,x.block<W.heap.size:=by obtain ⟨m,hm⟩:=k4;exact DataW.trod_lt m _ _ _ hm
 have lt5:∀ x∈p5,x.block<W.heap.size:=by obtain ⟨m,hm⟩:=k5;exact DataW.trod_lt m _ _ _ hm
 obtain ⟨f,t,rfl,hTa⟩:=open_type (hval 0 43 v0 rfl rfl) h0
 obtain ⟨g,u,rfl,hTb⟩:=open_type (hval 1 43 v1 rfl rfl) h1
 obtain ⟨a,m,cap,l,rfl,hP⟩:=open_prsV (hval 2 28 v2 rfl rfl) h2
 obtain ⟨b,n,cap2,R,rfl,hR⟩:=open_rwsV (hval 3 44 v3 rfl rfl) h3
 obtain ⟨c,rfl,rfl,rfl,wc⟩:=open_int Tryz.underlying3 (hval 4 3 v4 rfl rfl) h4
 obtain ⟨q,rfl,rfl,rfl,wq⟩:=open_int Tryz.underlying3 (hval 5 3 v5 rfl rfl) h5
 clear hA0 hval0
 refine (rows_walk t u f g a m cap l b n cap2 R c q W hTa hTb hP hR (tab_of_laid hL)).mono fun e W' ⟨he,bel⟩=>?_
 subst he
 exact ⟨_,rfl,_,_,_,[],_,[],hW',trodAll_mk1 (shut_bool Tryz.underlying4 _),(trodAll_cons_mk (Below.trod laidOutZ (by kernel_rfl) (of_decide_eq_true (by kernel_rfl)) k0 bel lt0) (trodAll_cons_mk (Below.trod laidOutZ (by kernel_rfl) (of_decide_eq_true (by kernel_rfl)) k1 bel lt1) (trodAll_cons_mk (Below.trod laidOutZ (by kernel_rfl) (of_decide_eq_true (by kernel_rfl)) k2 bel lt2) (trodAll_cons_mk (Below.trod laidOutZ (by kernel_rfl) (of_decide_eq_true (by kernel_rfl)) k3 bel lt3) (trodAll_cons_mk (Below.trod laidOutZ (by kernel_rfl) (of_decide_eq_true (by kernel_rfl)) k4 bel lt4) (trodAll_cons_mk (Below.trod laidOutZ (by kernel_rfl) (of_decide_eq_true (by kernel_rfl)) k5 bel lt5) trodAll_mk0)))))),rfl,bel.frame _,fun h=>by cases h⟩
theorem outliveRows_row (rows_walk:RWalk):Rows.OutliveRowsSaid :=
 OpenClaim.holds_of_wide 4 Tryz.f4 rfl rfl rfl rfl rfl rfl rfl ⟨rfl,rfl,rfl,rfl,rfl⟩ rfl rfl rfl rfl rfl (by kernel_rfl) Tryz.func4 (by kernel_rfl)
  (of_decide_eq_true (by kernel_rfl)) (by unfold Func.isWrapper;first|(rw [if_pos (by decide +kernel)];kernel_rfl)|(rw [if_neg (by decide +kernel)];exact ⟨rfl,rfl⟩))
  (fun os started H enc _=>outliveRows_lifted rows_walk os started H enc)
theorem outliveRows_card (rows_walk:RWalk):Rows.OutliveRowsCardSaid :=
 Claim7.holds_tied_plain_at .later [] [.data] true (true,"3dc6808ff6b97fe453a5c0d9a0bd788b5b06c2fd7bbdfefd7312fcab223e1f67") false
  (outliveRows_row rows_walk) (fun _ h=>by cases h) (by kernel_rfl) (fun _ h=>by cases h) outliveRows_row_tie rfl ⟨rfl,rfl⟩ (by kernel_rfl) rfl
  (fun f fn hf hfn=>by
   obtain rfl:f=4:=Option.some.inj ((show Tryz.prog.funcNamed "loanword/loanwordlaw15.OutliveRows"=some 4 by kernel_rfl).symm.trans hf) |>.symm
   obtain rfl:fn=Tryz.f4:=(Option.some.inj (Tryz.func4.symm.trans hfn)).symm
   exact ⟨by kernel_rfl,fun j t ht=>by
    rw [Tryz.params4] at ht
    have hm:t∈[43,43,28,44,3,3]:=by simpa using Array.mem_of_getElem? ht
    have hall:([43,43,28,44,3,3].all fun u=>!Tryz.prog.wantsStandIn u)=true:=by kernel_rfl
    exact (show Tryz.prog.wantsStandIn t=false by simpa using List.all_eq_true.1 hall t hm)⟩)
  (by kernel_rfl)
end Go.Proofs.YtmjenlogbkbgnaaGreatDoor
