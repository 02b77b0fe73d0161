import Derived.Test.YtdlggpcakaofoaaGreatB31
namespace Go.Proofs.YtdlggpcakaofoaaGreat
open Go.ChangeShapes Go.WideShapes Go.ChangeAt Go.RowKit Go.Joins Go.Shelf Go.WideElems Go.Maps
set_option linter.unusedVariables false
set_option linter.unusedSimpArgs false
set_option maxRecDepth 100000
theorem trod_fld {H:Type} {enc:TypeId × Value→H} {W:World} {base:Nat} {sp:Nat→Bool} {held:Bool} {t:TypeId} {fs:Array Field} {fuel:Nat} {cs:List Value} {x:DataW H × List MemPlace} (ht:Tryz.prog.underlying t=some (.struct fs)) (h:DataW.trod enc Tryz.prog W base sp held fuel t cs=some x) :
  ∃ n,fuel=n+1∧cs.length=Tryz.prog.cellsOf t∧∀ (i:Nat) (f:Field),fs[i]?=some f→∃ y,DataW.trod enc Tryz.prog W base sp held n f.type ((cs.drop f.offset).take (Tryz.prog.cellsOf f.type))=some y:=by
 obtain ⟨xs,n,hfu,-,hl,hlen,hf⟩:=DataW.trod_struct ht h
 refine ⟨n,hfu,hl,fun i f hi=>?_⟩
 have hlt:i<xs.length:=by rw [hlen];have:=(Array.getElem?_eq_some_iff.1 hi).1;exact this
 exact ⟨xs[i],by rw [hf i f hi,List.getElem?_eq_getElem hlt]⟩
theorem open_path {H:Type} {enc:TypeId × Value→H} {W:World} {base:Nat} {sp:Nat→Bool} {held:Bool} (n:Nat) (cs:List Value) (x:DataW H × List MemPlace) (h:DataW.trod enc Tryz.prog W base sp held n 26 cs=some x):∃ a n cap X,cs=[.slice a n cap]∧IntR W a n cap X:=by
 obtain ⟨a,len,cap,ys,hcs,hR⟩:=open_row (W:=W) (fun x:Int=>[.int .i64 x]) (fun x=>-9223372036854775808≤x∧x≤9223372036854775807) Tryz.underlying26 cO.2.2.2.2.1 (by decide) (fun _=>rfl) (fun m cs x h=>by
  obtain ⟨z,q0,-,w0⟩:=DataW.trod_int Tryz.underlying123 h
  simp [Lit.wf,IntKind.min,IntKind.max,IntKind.signed,IntKind.bits] at w0
  exact ⟨z,q0,by omega⟩) n cs x h
 refine ⟨a,len,cap,ys,hcs,hR.len,hR.le,hR.big,fun hne=>?_,fun z hz=>?_,hR.nil⟩
 ·obtain ⟨z,hz⟩:∃ z,ys[0]?=some z:=⟨_,List.getElem?_eq_getElem (List.length_pos_iff.2 hne)⟩
  obtain ⟨-,g,off,ea,hg,-⟩:=hR.at_ 0 z hz
  refine ⟨g,off,ea,hg,fun i x hi=>?_⟩
  obtain ⟨-,g',off',ea',-,hr⟩:=hR.at_ i x hi
  rw [ea] at ea'
  cases ea'
  have:=hr 0 _ rfl
  rwa [Nat.mul_one,Nat.add_zero] at this
 ·obtain ⟨i,hi⟩:=List.getElem?_of_mem hz
  exact (hR.at_ i z hi).1
theorem open_plc {H:Type} {enc:TypeId × Value→H} {W:World} {base:Nat} {sp:Nat→Bool} {held:Bool} (n:Nat) (cs:List Value) (x:DataW H × List MemPlace) (h:DataW.trod enc Tryz.prog W base sp held n 28 cs=some x):∃ (v:Pt) (p:List Int),cs=[.int .i64 v.l,.slice v.a v.n v.cap]∧PAt W v p:=by
 obtain ⟨m,hm,hlen,hf⟩:=trod_fld Tryz.underlying28 h
 rw [cO.2.2.2.2.2.1] at hlen
 match cs,hlen with
 | [c0,c1],_ =>
  obtain ⟨x0,hx0⟩:∃ y,DataW.trod enc Tryz.prog W base sp held m 3 [c0]=some y:=by have:=hf 0 _ rfl;simpa [cO.1] using this
  obtain ⟨x1,hx1⟩:∃ y,DataW.trod enc Tryz.prog W base sp held m 26 [c1]=some y:=by have:=hf 1 _ rfl;simpa [cO.2.2.2.1] using this
  obtain ⟨l,q0,-,w0⟩:=DataW.trod_int Tryz.underlying3 hx0
  simp [Lit.wf,IntKind.min,IntKind.max,IntKind.signed,IntKind.bits] at w0
  obtain ⟨a,k,cap,X,q1,hX⟩:=open_path _ _ _ hx1
  cases q0
  cases q1
  exact ⟨⟨l,a,k,cap⟩,X,rfl,hX,by show (-9223372036854775808:Int)≤l;omega,by show l≤(9223372036854775807:Int);omega⟩
theorem open_opd {H:Type} {enc:TypeId × Value→H} {W:World} {base:Nat} {sp:Nat→Bool} {held:Bool} (n:Nat) (cs:List Value) (x:DataW H × List MemPlace) (h:DataW.trod enc Tryz.prog W base sp held n 62 cs=some x):∃ v:Ov,cs=o4 v∧∃ q,OAt W v q:=by
 obtain ⟨m,hm,hlen,hf⟩:=trod_fld Tryz.underlying62 h
 rw [cO.2.2.2.2.2.2.2.2.1] at hlen
 match cs,hlen with
 | [c0,c1,c2,c3],_ =>
  obtain ⟨x0,hx0⟩:∃ y,DataW.trod enc Tryz.prog W base sp held m 60 [c0]=some y:=by have:=hf 0 _ rfl;simpa [cO.2.2.2.2.2.2.1] using this
  obtain ⟨x1,hx1⟩:∃ y,DataW.trod enc Tryz.prog W base sp held m 2 [c1]=some y:=by have:=hf 1 _ rfl;simpa [cO.2.2.2.2.2.2.2.1] using this
  obtain ⟨x2,hx2⟩:∃ y,DataW.trod enc Tryz.prog W base sp held m 28 [c2,c3]=some y:=by have:=hf 2 _ rfl;simpa [cO.2.2.2.2.2.1] using this
  obtain ⟨k,q0,-,w0⟩:=DataW.trod_int Tryz.underlying60 hx0
  obtain ⟨z,q1,-,w1⟩:=DataW.trod_int Tryz.underlying2 hx1
  simp [Lit.wf,IntKind.min,IntKind.max,IntKind.signed,IntKind.bits] at w0 w1
  obtain ⟨v,p,q2,hP⟩:=open_plc _ _ _ hx2
  cases q0
  cases q1
  cases q2
  have hk:((k.toNat:Nat):Int)=k:=by omega
  exact ⟨⟨k.toNat,z,v⟩,by unfold o4;simp only [hk],⟨k.toNat,z,v.l,p⟩,rfl,rfl,rfl,hP⟩
theorem oCells_rng {w:World} {g off:Nat}:∀ (vs:List Ov) (k:Nat),(∀ (i:Nat) (v:Ov),vs[i]?=some v→w.rangeAt g (off+(k+i)*4) (o4 v))→∀ (j:Nat) (u:Value),(oCells vs)[j]?=some u→w.cell? ⟨g,off+k*4+j,none⟩=some u
 | [],k,h,j,u,hu=>by simp [oCells] at hu
 | v::l,k,h,j,u,hu=>by
  simp only [oCells] at hu
  by_cases hj:j<4
  ·rw [List.getElem?_append_left (by simpa [o4] using hj)] at hu
   exact h 0 v rfl j u hu
  ·rw [List.getElem?_append_right (by simp [o4];omega)] at hu
   have:=oCells_rng l (k+1) (fun i v' hv'=>by have:=h (i+1) v' (by simpa using hv');rwa [show k+(i+1)=k+1+i by omega] at this) (j - 4) u (by simpa [o4] using hu)
   rwa [show off+(k+1)*4+(j - 4)=off+k*4+j by omega] at this
theorem rng_c5' {w:World} {b o:Nat} {f:Fv} (hl:b<w.heap.size) (h:w.rangeAt b o (t5 f)):C5 w b o f:=⟨hl,h 0 _ rfl,h 1 _ rfl,h 2 _ rfl,h 3 _ rfl,h 4 _ rfl⟩
theorem open_types {H:Type} {enc:TypeId × Value→H} {W:World} {base:Nat} {sp:Nat→Bool} {held:Bool} (n:Nat) (cs:List Value) (x:DataW H × List MemPlace) (h:DataW.trod enc Tryz.prog W base sp held n 32 cs=some x):∃ a k cap ts,cs=[.slice a k cap]∧LcAt W a k cap ts∧k≤cap∧cap≤maxLen∧(a=none→cap=0):=by
 obtain ⟨a,len,cap,fs,hcs,hR⟩:=open_row (W:=W) t5 (fun f=>∃ t,TyAt W f t) Tryz.underlying32 cO.2.2.2.2.2.2.2.2.2.2.2.2.2.2.2.2.2.2.2.1 (by decide) (fun _=>rfl) (fun m cs x h=>by
  obtain ⟨f,t,h1,h2⟩:=open_ty m cs x h
  exact ⟨f,h1,t,h2⟩) n cs x h
 obtain ⟨ts,h1,h2⟩:=list_pick fs (fun i f t=>TyAt W f t) (fun i f hf=>(hR.at_ i f hf).1)
 refine ⟨a,len,cap,ts,hcs,⟨by rw [h1];exact hR.len,Nat.le_trans hR.le hR.big,fun hne=>?_⟩,hR.le,hR.big,hR.nil⟩
 have hpos:0<fs.length:=by rw [← h1];exact List.length_pos_iff.2 hne
 obtain ⟨f,hf⟩:∃ f,fs[0]?=some f:=⟨_,List.getElem?_eq_getElem hpos⟩
 obtain ⟨-,g,off,ea,hg,-⟩:=hR.at_ 0 f hf
 refine ⟨g,off,ea,fun i t ht=>?_⟩
 have hi:i<fs.length:=by have:=(List.getElem?_eq_some_iff.1 ht).1;omega
 obtain ⟨f',hf'⟩:∃ f,fs[i]?=some f:=⟨_,List.getElem?_eq_getElem hi⟩
 obtain ⟨t',h3,h4⟩:=h2 i f' hf'
 rw [ht] at h3
 cases h3
 obtain ⟨-,g',off',ea',hg',hr⟩:=hR.at_ i f' hf'
 rw [ea] at ea'
 cases ea'
 exact ⟨f',rng_c5' hg' hr,h4⟩
theorem open_flds {H:Type} {enc:TypeId × Value→H} {W:World} {base:Nat} {sp:Nat→Bool} {held:Bool} (n:Nat) (cs:List Value) (x:DataW H × List MemPlace) (h:DataW.trod enc Tryz.prog W base sp held n 88 cs=some x):∃ a k cap ts,cs=[.slice a k cap]∧k=ts.length∧FdAt W a ts:=by
 obtain ⟨a,len,cap,fs,hcs,hR⟩:=open_row (W:=W) (fun y:ByteArray × Fv=>.string y.1::t5 y.2) (fun y=>∃ t,TyAt W y.2 t) Tryz.underlying88 cO.2.2.2.2.2.2.2.2.2.2.2.2.2.2.2.2.2.2.2.2.1 (by decide) (fun _=>rfl) (fun m cs x h=>by
  obtain ⟨m,hm,hlen,hf⟩:=trod_fld Tryz.underlying93 h
  rw [cO.2.2.2.2.2.2.2.2.2.2.2.2.2.2.2.2.2.2.2.2.1] at hlen
  match cs,hlen with
  | [c0,c1,c2,c3,c4,c5],_ =>
   obtain ⟨x0,hx0⟩:∃ y,DataW.trod enc Tryz.prog W base sp held m 9 [c0]=some y:=by have:=hf 0 _ rfl;simpa [cO.2.2.1] using this
   obtain ⟨x1,hx1⟩:∃ y,DataW.trod enc Tryz.prog W base sp held m 46 [c1,c2,c3,c4,c5]=some y:=by have:=hf 1 _ rfl;simpa [cO.2.2.2.2.2.2.2.2.2.2.2.2.2.2.2.2.2.2.2.1] using this
   obtain ⟨nm,q0,-⟩:=DataW.trod_string Tryz.underlying9 hx0
   obtain ⟨f,t,q1,h1⟩:=open_ty _ _ _ hx1
   simp only [List.cons.injEq,and_true] at q0 q1
   obtain ⟨p0,p1,p2,p3,p4⟩:=q1
   subst q0 p0 p1 p2 p3 p4
   exact ⟨(nm,f),rfl,t,h1⟩) n cs x h
 obtain ⟨ts,h1,h2⟩:=list_pick fs (fun i (y:ByteArray × Fv) t=>TyAt W y.2 t) (fun i f hf=>(hR.at_ i f hf).1)
 refine ⟨a,len,cap,ts,hcs,by rw [h1];exact hR.len,by rw [h1,← hR.len];exact Nat.le_trans hR.le hR.big,fun hne=>?_⟩
 have hpos:0<fs.length:=by rw [← h1];exact List.length_pos_iff.2 hne
 obtain ⟨f,hf⟩:∃ f,fs[0]?=some f:=⟨_,List.getElem?_eq_getElem hpos⟩
 obtain ⟨-,g,off,ea,hg,-⟩:=hR.at_ 0 f hf
 refine ⟨g,off,ea,fun i t ht=>?_⟩
 have hi:i<fs.length:=by have:=(List.getElem?_eq_some_iff.1 ht).1;omega
 obtain ⟨f',hf'⟩:∃ f,fs[i]?=some f:=⟨_,List.getElem?_eq_getElem hi⟩
 obtain ⟨t',h3,h4⟩:=h2 i f' hf'
 rw [ht] at h3
 cases h3
 obtain ⟨-,g',off',ea',hg',hr⟩:=hR.at_ i f' hf'
 rw [ea] at ea'
 cases ea'
 have hr2:W.rangeAt g (off+i*6+1) (t5 f'.2):=fun j v hv=>by
  have:=hr (j+1) v (by simpa using hv)
  rwa [show off+i*6+(j+1)=off+i*6+1+j by omega] at this
 exact ⟨f'.2,f'.1,hr 0 _ rfl,rng_c5' hg' hr2,h4⟩
theorem open_sts {H:Type} {enc:TypeId × Value→H} {W:World} {base:Nat} {sp:Nat→Bool} {held:Bool} (n:Nat) (cs:List Value) (x:DataW H × List MemPlace) (h:DataW.trod enc Tryz.prog W base sp held n 22 cs=some x):∃ a k cap ss,cs=[.slice a k cap]∧StAt W a k cap ss∧(∀ (i:Nat) (fs:List Ty),ss[i]?=some fs→∃ g off nm,a=some ⟨g,off,none⟩∧W.cell? ⟨g,off+i*2,none⟩=some (.string nm)):=by
 obtain ⟨a,len,cap,ys,hcs,hR⟩:=open_row (W:=W) (fun y:ByteArray × Option Addr × Nat × Nat=>[.string y.1,.slice y.2.1 y.2.2.1 y.2.2.2]) (fun y=>∃ ts,y.2.2.1=ts.length∧FdAt W y.2.1 ts) Tryz.underlying22 cO.2.2.2.2.2.2.2.2.2.2.2.2.2.2.2.2.2.2.2.2.2.1 (by decide) (fun _=>rfl) (fun m cs x h=>by
  obtain ⟨m,hm,hlen,hf⟩:=trod_fld Tryz.underlying90 h
  rw [cO.2.2.2.2.2.2.2.2.2.2.2.2.2.2.2.2.2.2.2.2.2.1] at hlen
  match cs,hlen with
  | [c0,c1],_ =>
   obtain ⟨x0,hx0⟩:∃ y,DataW.trod enc Tryz.prog W base sp held m 9 [c0]=some y:=by have:=hf 0 _ rfl;simpa [cO.2.2.1] using this
   obtain ⟨x1,hx1⟩:∃ y,DataW.trod enc Tryz.prog W base sp held m 88 [c1]=some y:=by have:=hf 1 _ rfl;simpa [cO.2.2.2.2.2.2.2.2.2.2.2.2.2.2.2.2.2.2.2.2.2.2.1] using this
   obtain ⟨nm,q0,-⟩:=DataW.trod_string Tryz.underlying9 hx0
   obtain ⟨fa,k,fcap,ts,q1,h1,h2⟩:=open_flds _ _ _ hx1
   simp only [List.cons.injEq,and_true] at q0 q1
   subst q0 q1
   exact ⟨(nm,fa,k,fcap),rfl,ts,h1,h2⟩) n cs x h
 obtain ⟨ss,h1,h2⟩:=list_pick ys (fun i (y:ByteArray × Option Addr × Nat × Nat) ts=>y.2.2.1=ts.length∧FdAt W y.2.1 ts) (fun i f hf=>(hR.at_ i f hf).1)
 have key:∀ (i:Nat) (fs:List Ty),ss[i]?=some fs→∃ y,ys[i]?=some y∧y.2.2.1=fs.length∧FdAt W y.2.1 fs:=fun i fs hi=>by
  have hl:i<ys.length:=by have:=(List.getElem?_eq_some_iff.1 hi).1;omega
  obtain ⟨y,hy⟩:∃ y,ys[i]?=some y:=⟨_,List.getElem?_eq_getElem hl⟩
  obtain ⟨t',h3,h4⟩:=h2 i y hy
  rw [hi] at h3
  cases h3
  exact ⟨y,hy,h4⟩
 refine ⟨a,len,cap,ss,hcs,⟨by rw [h1];exact hR.len,Nat.le_trans hR.le hR.big,fun hne=>?_⟩,fun i fs hi=>?_⟩
 ·have hpos:0<ys.length:=by rw [← h1];exact List.length_pos_iff.2 hne
  obtain ⟨y,hy⟩:∃ y,ys[0]?=some y:=⟨_,List.getElem?_eq_getElem hpos⟩
  obtain ⟨-,g,off,ea,hg,-⟩:=hR.at_ 0 y hy
  refine ⟨g,off,ea,hg,fun i fs hi=>?_⟩
  obtain ⟨y',hy',h3,h4⟩:=key i fs hi
  obtain ⟨-,g',off',ea',hg',hr⟩:=hR.at_ i y' hy'
  rw [ea] at ea'
  cases ea'
  refine ⟨y'.2.1,y'.2.2.2,?_,h4⟩
  have:=hr 1 _ rfl
  rw [h3] at this
  exact this
 ·obtain ⟨y',hy',-,-⟩:=key i fs hi
  obtain ⟨-,g',off',ea',hg',hr⟩:=hR.at_ i y' hy'
  exact ⟨g',off',y'.1,ea',hr 0 _ rfl⟩
structure Gv where
 nm:ByteArray
 lv:Int
 oa:Option Addr
 on:Nat
 oc:Nat
 pa:Int
 la:Option Addr
 ln:Nat
 lc:Nat
 na:Option Addr
 nn:Nat
 nc:Nat
 qa:Option Addr
 qn:Nat
 qc:Nat
def gC (v:Gv):List Value:=[.string v.nm,.int .i64 v.lv,.slice v.oa v.on v.oc,.int .i64 v.pa,.slice v.la v.ln v.lc,.slice v.na v.nn v.nc,.slice v.qa v.qn v.qc]
theorem open_names {H:Type} {enc:TypeId × Value→H} {W:World} {base:Nat} {sp:Nat→Bool} {held:Bool} (n:Nat) (cs:List Value) (x:DataW H × List MemPlace) (h:DataW.trod enc Tryz.prog W base sp held n 67 cs=some x):∃ a k cap ns,cs=[.slice a k cap]∧RowA W a k cap 1 (fun s:ByteArray=>[.string s]) (fun _=>True) ns :=
 open_row (W:=W) (fun s:ByteArray=>[.string s]) (fun _=>True) Tryz.underlying67 cO.2.2.1 (by decide) (fun _=>rfl) (fun m cs x h=>by
  obtain ⟨s,q0,-⟩:=DataW.trod_string Tryz.underlying9 h
  exact ⟨s,q0,trivial⟩) n cs x h
end Go.Proofs.YtdlggpcakaofoaaGreat
