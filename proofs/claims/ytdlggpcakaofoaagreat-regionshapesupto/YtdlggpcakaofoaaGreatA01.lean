import Derived.Test.YtdlggpcakaofoaaGreatO01
import Derived.Test.YtdlggpcakaofoaaGreatB40
import Derived.Test.YtdlggpcakaofoaaGreatRows
namespace Go.Proofs.YtdlggpcakaofoaaGreat
open Go.ChangeShapes Go.WideShapes Go.ChangeAt Go.RowKit Go.Joins Go.Shelf Go.WideElems Go.Maps
set_option linter.unusedVariables false
set_option linter.unusedSimpArgs false
set_option maxRecDepth 100000
set_option maxHeartbeats 8000000
theorem bulk_one {H:Type} (d:DataW H):1≤Rows.uptoBulk d:=by
 cases d with
 | lit l=>cases l <;> simp [Rows.uptoBulk]
 | nil=>simp [Rows.uptoBulk]
 | ptr d=>simp [Rows.uptoBulk]
 | slice elems spare=>simp [Rows.uptoBulk]
 | agg parts=>simp [Rows.uptoBulk]
 | iface t d=>simp [Rows.uptoBulk]
 | map entries=>simp [Rows.uptoBulk]
 | held h=>simp [Rows.uptoBulk]
theorem bulk_part {H:Type} {d:DataW H}:∀ {l:List (DataW H)},d∈l→Rows.uptoBulk d≤Rows.uptoBulkAll l
 | [],h=>by cases h
 | x::r,h=>by
  simp only [Rows.uptoBulkAll]
  cases List.mem_cons.1 h with
  | inl e=>subst e;omega
  | inr e=>have:=bulk_part e;omega
theorem bulk_len {H:Type}:∀ (l:List (DataW H)),l.length≤Rows.uptoBulkAll l
 | []=>by simp
 | x::r=>by have:=bulk_one x;have:=bulk_len r;simp only [Rows.uptoBulkAll,List.length_cons];omega
theorem fldB {H:Type} {enc:TypeId × Value→H} {W:World} {base:Nat} {sp:Nat→Bool} {held:Bool} {t:TypeId} {fs:Array Field} {fuel:Nat} {cs:List Value} {x:DataW H × List MemPlace} (ht:Tryz.prog.underlying t=some (.struct fs)) (h:DataW.trod enc Tryz.prog W base sp held fuel t cs=some x) :
  ∃ n,fuel=n+1∧cs.length=Tryz.prog.cellsOf t∧∀ (i:Nat) (f:Field),fs[i]?=some f→∃ y,DataW.trod enc Tryz.prog W base sp held n f.type ((cs.drop f.offset).take (Tryz.prog.cellsOf f.type))=some y∧Rows.uptoBulk y.1≤Rows.uptoBulk x.1:=by
 obtain ⟨xs,n,hfu,hxx,hl,hlen,hf⟩:=DataW.trod_struct ht h
 refine ⟨n,hfu,hl,fun i f hi=>?_⟩
 have hlt:i<xs.length:=by rw [hlen];have:=(Array.getElem?_eq_some_iff.1 hi).1;exact this
 refine ⟨xs[i],by rw [hf i f hi,List.getElem?_eq_getElem hlt],?_⟩
 have:=bulk_part (d:=xs[i].1) (l:=xs.map (·.1)) (List.mem_map_of_mem (List.getElem_mem hlt))
 rw [hxx]
 simp only [Rows.uptoBulk]
 omega
theorem rowB {H:Type} {enc:TypeId × Value→H} {W:World} {base:Nat} {sp:Nat→Bool} {held:Bool} {t e s:Nat} {Y:Type} (cells:Y→List Value) (Good:Y→Prop) (hu:Tryz.prog.underlying t=some (.slice e)) (hs:Tryz.prog.cellsOf e=s) (h0:0<s) (hlen:∀ y,(cells y).length=s)
  (hel:∀ (m:Nat) (cs:List Value) (x:DataW H × List MemPlace),DataW.trod enc Tryz.prog W base sp held m e cs=some x→Rows.uptoBulk x.1≤1048576→∃ y,cs=cells y∧Good y) (n:Nat) (cs:List Value) (x:DataW H × List MemPlace) (h:DataW.trod enc Tryz.prog W base sp held n t cs=some x) (hb:Rows.uptoBulk x.1≤1048576) :
  ∃ a len cap ys,cs=[.slice a len cap]∧len≤1048576∧RowA W a len cap s cells Good ys:=by
 rcases DataW.trod_slice hu h with ⟨hcs,_⟩|⟨a,len0,cap0,elems,rest,m2,hm2,hcs,hxx,-,hl,hc,hel2,hx,_,_⟩
 ·exact ⟨none,0,0,[],hcs,by omega,RowA.nul _ _ _ _⟩
 ·rw [hs] at hx
  rw [hxx] at hb
  simp only [Rows.uptoBulk] at hb
  have hbl:=bulk_len (elems.map (·.1))
  rw [List.length_map] at hbl
  obtain ⟨ys,h1,h2⟩:=list_pick (List.range len0) (fun i _ (y:Y)=>Good y∧∀ (j:Nat) (v:Value),(cells y)[j]?=some v→W.cell? (a.add (i*s+j))=some v) (fun i k hi=>by
   have hi2:i<len0:=by simpa using (List.getElem?_eq_some_iff.1 hi).1
   have hxi:=hx i hi2
   rw [List.getElem?_eq_getElem (by omega),Option.bind_eq_some_iff] at hxi
   obtain ⟨cs',hc1,hc2⟩:=hxi
   obtain ⟨y,rfl,hy⟩:=hel _ _ _ hc2 (by have:=bulk_part (List.mem_map_of_mem (f:=(·.1)) (List.getElem_mem (l:=elems) (n:=i) (by omega)));omega)
   obtain ⟨_,hln,hcell⟩:=World.cells?_some hc1
   refine ⟨y,hy,fun j v hv=>?_⟩
   have hj:j<s:=by have:=(List.getElem?_eq_some_iff.1 hv).1;rw [hlen] at this;exact this
   have g0:=hcell j (by omega)
   rw [Deep.add_add] at g0
   rw [g0]
   simpa using hv)
  rw [List.length_range] at h1
  refine ⟨some a,len0,cap0,ys,hcs,by omega,h1.symm,hl,hc,(fun e=>by cases e),fun i y hy=>?_⟩
  have hi2:i<len0:=by have:=(List.getElem?_eq_some_iff.1 hy).1;omega
  obtain ⟨y',h3,h4,h5⟩:=h2 i i (by rw [List.getElem?_range hi2])
  rw [hy] at h3
  cases h3
  obtain ⟨b,off,spot⟩:=a
  obtain ⟨y0,h30,h40,h50⟩:=h2 0 0 (by rw [List.getElem?_range (by omega)])
  obtain ⟨v0,hv0⟩:∃ v,(cells y0)[0]?=some v:=⟨_,List.getElem?_eq_getElem (by rw [hlen];exact h0)⟩
  have hc0:=h50 0 v0 hv0
  rw [Nat.zero_mul] at hc0
  have hspot:spot=none:=by simpa [Addr.add] using World.cell?_spot hc0
  subst hspot
  refine ⟨h4,b,off,rfl,?_,fun j v hv=>?_⟩
  ·rw [Addr.add_lit] at hc0
   exact World.block_lt_of_cell? W _ hc0
  ·have:=h5 j v hv
   rw [Addr.add_lit,← Nat.add_assoc] at this
   exact this
theorem opdsB {H:Type} {enc:TypeId × Value→H} {W:World} {base:Nat} {sp:Nat→Bool} {held:Bool} (n:Nat) (cs:List Value) (x:DataW H × List MemPlace) (h:DataW.trod enc Tryz.prog W base sp held n 63 cs=some x) (hb:Rows.uptoBulk x.1≤1048576):∃ a k cap os,cs=[.slice a k cap]∧OL W a k cap os:=by
 obtain ⟨a,len,cap,vs,hcs,hbg,hR⟩:=rowB (W:=W) o4 (fun v=>∃ q,OAt W v q) Tryz.underlying63 cO.2.2.2.2.2.2.2.2.1 (by decide) (fun _=>rfl) (fun m cs x h _=>open_opd m cs x h) n cs x h hb
 obtain ⟨os,h1,h2⟩:=list_pick vs (fun i v q=>OAt W v q) (fun i v hv=>(hR.at_ i v hv).1)
 refine ⟨a,len,cap,os,hcs,by rw [h1];exact hR.len,by omega,hR.nil,fun hne=>?_⟩
 have hpos:0<vs.length:=by rw [← h1];exact List.length_pos_iff.2 hne
 obtain ⟨v,hv⟩:∃ v,vs[0]?=some v:=⟨_,List.getElem?_eq_getElem hpos⟩
 obtain ⟨-,g,off,ea,hg,-⟩:=hR.at_ 0 v hv
 refine ⟨g,off,vs,ea,hg,h1.symm,fun j u hu=>?_,fun i v o hv ho=>?_⟩
 ·have:=oCells_rng (w:=W) (g:=g) (off:=off) vs 0 (fun i v hv=>by
   obtain ⟨-,g',off',ea',-,hr⟩:=hR.at_ i v hv
   rw [ea] at ea'
   cases ea'
   rw [Nat.zero_add]
   exact hr) j u hu
  rwa [Nat.zero_mul,Nat.add_zero] at this
 ·obtain ⟨q,h3,h4⟩:=h2 i v hv
  rw [ho] at h3
  cases h3
  exact h4
theorem pointB {H:Type} {enc:TypeId × Value→H} {W:World} {base:Nat} {sp:Nat→Bool} {held:Bool} (n:Nat) (cs:List Value) (x:DataW H × List MemPlace) (h:DataW.trod enc Tryz.prog W base sp held n 65 cs=some x) (hb:Rows.uptoBulk x.1≤1048576):∃ v:Pv,cs=pC v∧∃ p,PntAt W v p:=by
 obtain ⟨m,hm,hlen,hf⟩:=fldB Tryz.underlying65 h
 rw [cO.2.2.2.2.2.2.2.2.2.2.2.1] at hlen
 match cs,hlen with
 | [c0,c1,c2,c3,c4,c5,c6,c7,c8,c9,c10,c11,c12,c13,c14,c15,c16,c17,c18,c19,c20],_ =>
  obtain ⟨x0,hx0,b0⟩:=hf 0 _ rfl
  replace hx0:DataW.trod enc Tryz.prog W base sp held m 59 [c0]=some x0:=by simpa [cO.2.2.2.2.2.2.2.2.2.2.1] using hx0
  obtain ⟨x1,hx1,b1⟩:=hf 1 _ rfl
  replace hx1:DataW.trod enc Tryz.prog W base sp held m 28 [c1,c2]=some x1:=by simpa [cO.2.2.2.2.2.1] using hx1
  obtain ⟨x2,hx2,b2⟩:=hf 2 _ rfl
  replace hx2:DataW.trod enc Tryz.prog W base sp held m 62 [c3,c4,c5,c6]=some x2:=by simpa [cO.2.2.2.2.2.2.2.2.1] using hx2
  obtain ⟨x3,hx3,b3⟩:=hf 3 _ rfl
  replace hx3:DataW.trod enc Tryz.prog W base sp held m 62 [c7,c8,c9,c10]=some x3:=by simpa [cO.2.2.2.2.2.2.2.2.1] using hx3
  obtain ⟨x4,hx4,b4⟩:=hf 4 _ rfl
  replace hx4:DataW.trod enc Tryz.prog W base sp held m 63 [c11]=some x4:=by simpa [cO.2.2.2.2.2.2.2.2.2.1] using hx4
  obtain ⟨x5,hx5,b5⟩:=hf 5 _ rfl
  replace hx5:DataW.trod enc Tryz.prog W base sp held m 9 [c12]=some x5:=by simpa [cO.2.2.1] using hx5
  obtain ⟨x6,hx6,b6⟩:=hf 6 _ rfl
  replace hx6:DataW.trod enc Tryz.prog W base sp held m 28 [c13,c14]=some x6:=by simpa [cO.2.2.2.2.2.1] using hx6
  obtain ⟨x7,hx7,b7⟩:=hf 7 _ rfl
  replace hx7:DataW.trod enc Tryz.prog W base sp held m 4 [c15]=some x7:=by simpa [cO.2.1] using hx7
  obtain ⟨x8,hx8,b8⟩:=hf 8 _ rfl
  replace hx8:DataW.trod enc Tryz.prog W base sp held m 3 [c16]=some x8:=by simpa [cO.1] using hx8
  obtain ⟨x9,hx9,b9⟩:=hf 9 _ rfl
  replace hx9:DataW.trod enc Tryz.prog W base sp held m 3 [c17]=some x9:=by simpa [cO.1] using hx9
  obtain ⟨x10,hx10,b10⟩:=hf 10 _ rfl
  replace hx10:DataW.trod enc Tryz.prog W base sp held m 3 [c18]=some x10:=by simpa [cO.1] using hx10
  obtain ⟨x11,hx11,b11⟩:=hf 11 _ rfl
  replace hx11:DataW.trod enc Tryz.prog W base sp held m 3 [c19]=some x11:=by simpa [cO.1] using hx11
  obtain ⟨x12,hx12,b12⟩:=hf 12 _ rfl
  replace hx12:DataW.trod enc Tryz.prog W base sp held m 3 [c20]=some x12:=by simpa [cO.1] using hx12
  obtain ⟨op,q0,-,w0⟩:=DataW.trod_int Tryz.underlying59 hx0
  simp [Lit.wf,IntKind.min,IntKind.max,IntKind.signed,IntKind.bits] at w0
  obtain ⟨tp,tpp,q1,h1⟩:=open_plc _ _ _ hx1
  obtain ⟨va,q2,qa,h2⟩:=open_opd _ _ _ hx2
  obtain ⟨vb,q3,qb,h3⟩:=open_opd _ _ _ hx3
  obtain ⟨ra,rn,rc,os,q4,h4⟩:=opdsB _ _ _ hx4 (by omega)
  obtain ⟨sg,q5,-⟩:=DataW.trod_string Tryz.underlying9 hx5
  obtain ⟨fp,fpp,q6,h6⟩:=open_plc _ _ _ hx6
  obtain ⟨mu,q7,-⟩:=DataW.trod_bool Tryz.underlying4 hx7
  obtain ⟨fn,q8,-⟩:=DataW.trod_int Tryz.underlying3 hx8
  obtain ⟨st,q9,-⟩:=DataW.trod_int Tryz.underlying3 hx9
  obtain ⟨nx,q10,-⟩:=DataW.trod_int Tryz.underlying3 hx10
  obtain ⟨el,q11,-⟩:=DataW.trod_int Tryz.underlying3 hx11
  obtain ⟨ps,q12,-⟩:=DataW.trod_int Tryz.underlying3 hx12
  unfold o4 at q2 q3
  simp only [List.cons.injEq,and_true] at q0 q1 q2 q3 q4 q5 q6 q7 q8 q9 q10 q11 q12
  have hk:((op.toNat:Nat):Int)=op:=by omega
  obtain ⟨q1a,q1b⟩:=q1
  obtain ⟨q2a,q2b,q2c,q2d⟩:=q2
  obtain ⟨q3a,q3b,q3c,q3d⟩:=q3
  obtain ⟨q6a,q6b⟩:=q6
  subst q0 q1a q1b q2a q2b q2c q2d q3a q3b q3c q3d q4 q5 q6a q6b q7 q8 q9 q10 q11 q12
  exact ⟨⟨op.toNat,tp,va,vb,ra,rn,rc,sg,fp,mu,fn,st,nx,el,ps⟩,by unfold pC;simp only [hk],⟨op.toNat,⟨tp.l,tpp⟩,qa,qb,os,sg.toList,⟨fp.l,fpp⟩,mu,fn,st,nx,el,ps⟩,rfl,h1,rfl,h2,h3,h4,rfl,h6,rfl,rfl,rfl,rfl,rfl,rfl,rfl⟩
theorem pointsB {H:Type} {enc:TypeId × Value→H} {W:World} {base:Nat} {sp:Nat→Bool} {held:Bool} (n:Nat) (cs:List Value) (x:DataW H × List MemPlace) (h:DataW.trod enc Tryz.prog W base sp held n 68 cs=some x) (hb:Rows.uptoBulk x.1≤1048576):∃ a k cap ps,cs=[.slice a k cap]∧PsL W a k cap ps:=by
 obtain ⟨a,len,cap,vs,hcs,hbg,hR⟩:=rowB (W:=W) pC (fun v=>∃ p,PntAt W v p) Tryz.underlying68 cO.2.2.2.2.2.2.2.2.2.2.2.1 (by decide) (fun _=>rfl) (fun m cs x h hb=>pointB m cs x h hb) n cs x h hb
 obtain ⟨ps,h1,h2⟩:=list_pick vs (fun i v p=>PntAt W v p) (fun i v hv=>(hR.at_ i v hv).1)
 refine ⟨a,len,cap,ps,hcs,by rw [h1];exact hR.len,fun i p hp=>?_⟩
 have hl:i<vs.length:=by have:=(List.getElem?_eq_some_iff.1 hp).1;omega
 obtain ⟨v,hv⟩:∃ v,vs[i]?=some v:=⟨_,List.getElem?_eq_getElem hl⟩
 obtain ⟨p',h3,h4⟩:=h2 i v hv
 rw [hp] at h3
 cases h3
 obtain ⟨-,g,off,ea,hg,hr⟩:=hR.at_ i v hv
 exact ⟨g,off,v,ea,hg,hr,h4⟩
theorem ousB {H:Type} {enc:TypeId × Value→H} {W:World} {base:Nat} {sp:Nat→Bool} {held:Bool} (n:Nat) (cs:List Value) (x:DataW H × List MemPlace) (h:DataW.trod enc Tryz.prog W base sp held n 66 cs=some x) (hb:Rows.uptoBulk x.1≤1048576):∃ a k cap ou,cs=[.slice a k cap]∧OuAt W a k cap ou:=by
 obtain ⟨a,len,cap,ou,hcs,hbg,hR⟩:=rowB (W:=W) (fun o:Int × Int=>[.int .i64 o.1,.int .i64 o.2]) (fun _=>True) Tryz.underlying66 cO.2.2.2.2.2.2.2.2.2.2.2.2.1 (by decide) (fun _=>rfl) (fun m cs x h _=>by
  obtain ⟨m,hm,hlen,hf⟩:=trod_fld Tryz.underlying130 h
  rw [cO.2.2.2.2.2.2.2.2.2.2.2.2.1] at hlen
  match cs,hlen with
  | [c0,c1],_ =>
   obtain ⟨x0,hx0⟩:∃ y,DataW.trod enc Tryz.prog W base sp held m 3 [c0]=some y:=by have:=hf 0 _ rfl;simpa [cO.1] using this
   obtain ⟨x1,hx1⟩:∃ y,DataW.trod enc Tryz.prog W base sp held m 3 [c1]=some y:=by have:=hf 1 _ rfl;simpa [cO.1] using this
   obtain ⟨a,q0,-⟩:=DataW.trod_int Tryz.underlying3 hx0
   obtain ⟨b,q1,-⟩:=DataW.trod_int Tryz.underlying3 hx1
   simp only [List.cons.injEq,and_true] at q0 q1
   subst q0 q1
   exact ⟨(a,b),rfl,trivial⟩) n cs x h hb
 refine ⟨a,len,cap,ou,hcs,hR.len,by omega,fun i o ho=>?_⟩
 obtain ⟨-,g,off,ea,hg,hr⟩:=hR.at_ i o ho
 exact ⟨g,off,ea,hg,hr 0 _ rfl,hr 1 _ rfl⟩
structure GrB (w:World) (v:Gv) (g:Grp):Prop where
 nm:v.nm=g.nm
 gc:GrC w v.nm v.lv v.oa v.on v.oc v.pa v.la v.ln v.lc v.na v.nn v.nc v.qa v.qn v.qc g
theorem graphB {H:Type} {enc:TypeId × Value→H} {W:World} {base:Nat} {sp:Nat→Bool} {held:Bool} (n:Nat) (cs:List Value) (x:DataW H × List MemPlace) (h:DataW.trod enc Tryz.prog W base sp held n 70 cs=some x) (hb:Rows.uptoBulk x.1≤1048576):∃ v:Gv,cs=gC v∧∃ g,GrB W v g:=by
 obtain ⟨m,hm,hlen,hf⟩:=fldB Tryz.underlying70 h
 rw [cO.2.2.2.2.2.2.2.2.2.2.2.2.2.2.2.2.2.1] at hlen
 match cs,hlen with
 | [c0,c1,c2,c3,c4,c5,c6],_ =>
  obtain ⟨x0,hx0,b0⟩:=hf 0 _ rfl
  replace hx0:DataW.trod enc Tryz.prog W base sp held m 9 [c0]=some x0:=by simpa [cO.2.2.1] using hx0
  obtain ⟨x1,hx1,b1⟩:=hf 1 _ rfl
  replace hx1:DataW.trod enc Tryz.prog W base sp held m 3 [c1]=some x1:=by simpa [cO.1] using hx1
  obtain ⟨x2,hx2,b2⟩:=hf 2 _ rfl
  replace hx2:DataW.trod enc Tryz.prog W base sp held m 66 [c2]=some x2:=by simpa [cO.2.2.2.2.2.2.2.2.2.2.2.2.2.1] using hx2
  obtain ⟨x3,hx3,b3⟩:=hf 3 _ rfl
  replace hx3:DataW.trod enc Tryz.prog W base sp held m 3 [c3]=some x3:=by simpa [cO.1] using hx3
  obtain ⟨x4,hx4,b4⟩:=hf 4 _ rfl
  replace hx4:DataW.trod enc Tryz.prog W base sp held m 32 [c4]=some x4:=by simpa [cO.2.2.2.2.2.2.2.2.2.2.2.2.2.2.1] using hx4
  obtain ⟨x5,hx5,b5⟩:=hf 5 _ rfl
  replace hx5:DataW.trod enc Tryz.prog W base sp held m 67 [c5]=some x5:=by simpa [cO.2.2.2.2.2.2.2.2.2.2.2.2.2.2.2.1] using hx5
  obtain ⟨x6,hx6,b6⟩:=hf 6 _ rfl
  replace hx6:DataW.trod enc Tryz.prog W base sp held m 68 [c6]=some x6:=by simpa [cO.2.2.2.2.2.2.2.2.2.2.2.2.2.2.2.2.1] using hx6
  obtain ⟨nm,q0,-⟩:=DataW.trod_string Tryz.underlying9 hx0
  obtain ⟨lv,q1,-⟩:=DataW.trod_int Tryz.underlying3 hx1
  obtain ⟨oa,on,oc,ou,q2,h2⟩:=ousB _ _ _ hx2 (by omega)
  obtain ⟨pa,q3,-⟩:=DataW.trod_int Tryz.underlying3 hx3
  obtain ⟨la,ln,lc,lo,q4,h4,h4b,-,-⟩:=open_types _ _ _ hx4
  obtain ⟨na,nn,nc,ns,q5,h5⟩:=open_names _ _ _ hx5
  obtain ⟨qa,qn,qc,ps,q6,h6⟩:=pointsB _ _ _ hx6 (by omega)
  simp only [List.cons.injEq,and_true] at q0 q1 q2 q3 q4 q5 q6
  subst q0 q1 q2 q3 q4 q5 q6
  exact ⟨⟨nm,lv,oa,on,oc,pa,la,ln,lc,na,nn,nc,qa,qn,qc⟩,rfl,⟨nm,lv,ou,pa,lo,ns,ps⟩,rfl,⟨rfl,rfl,h2,h4,h4b,h5.len,h6⟩⟩
theorem graphsB {H:Type} {enc:TypeId × Value→H} {W:World} {base:Nat} {sp:Nat→Bool} {held:Bool} (n:Nat) (cs:List Value) (x:DataW H × List MemPlace) (h:DataW.trod enc Tryz.prog W base sp held n 23 cs=some x) (hb:Rows.uptoBulk x.1≤1048576):∃ a k cap gs,cs=[.slice a k cap]∧UnAt W a k gs:=by
 obtain ⟨a,len,cap,vs,hcs,hbg,hR⟩:=rowB (W:=W) gC (fun v=>∃ p,GrB W v p) Tryz.underlying23 cO.2.2.2.2.2.2.2.2.2.2.2.2.2.2.2.2.2.1 (by decide) (fun _=>rfl) (fun m cs x h hb=>graphB m cs x h hb) n cs x h hb
 obtain ⟨gs,h1,h2⟩:=list_pick vs (fun i v p=>GrB W v p) (fun i v hv=>(hR.at_ i v hv).1)
 refine ⟨a,len,cap,gs,hcs,by rw [h1];exact hR.len,fun i p hp=>?_⟩
 have hl:i<vs.length:=by have:=(List.getElem?_eq_some_iff.1 hp).1;omega
 obtain ⟨v,hv⟩:∃ v,vs[i]?=some v:=⟨_,List.getElem?_eq_getElem hl⟩
 obtain ⟨p',h3,h4⟩:=h2 i v hv
 rw [hp] at h3
 cases h3
 obtain ⟨-,g,off,ea,hg,hr⟩:=hR.at_ i v hv
 exact ⟨g,off,v.nm,v.lv,v.oa,v.on,v.oc,v.pa,v.la,v.ln,v.lc,v.na,v.nn,v.nc,v.qa,v.qn,v.qc,ea,⟨hg,hr⟩,h4.gc⟩
theorem unitO {H:Type} {enc:TypeId × Value→H} {W:World} {r:Reach} {b0 base:Nat} {v:Value} {d:DataW H} {p:List MemPlace} {held:Bool} (hval:Value.okWide Tryz.prog W r b0 25 v) (h:DataW.Trod enc Tryz.prog W base (fun _=>true) held 25 v d p) (hb:Rows.uptoBulk d≤1048576) :
  ∃ a n cap ua un ucap mn ss gs,v=uV a n cap ua un ucap mn∧StAt W a n cap ss∧UnAt W ua un gs:=by
 obtain ⟨cs0,rfl,hsz⟩:=okWide_struct Tryz.underlying25 hval
 rw [cO.2.2.2.2.2.2.2.2.2.2.2.2.2.2.2.2.2.2.2.2.2.2.2.2.2] at hsz
 obtain ⟨fuel,hf0⟩:=h
 obtain ⟨l⟩:=cs0
 match l,hsz with
 | [c0,c1,c2],_ =>
  obtain ⟨m,hm,hlen,hf⟩:=fldB Tryz.underlying25 hf0
  simp only [Value.cells] at hf
  obtain ⟨x0,hx0,b0⟩:=hf 0 _ rfl
  obtain ⟨x1,hx1,b1⟩:=hf 1 _ rfl
  obtain ⟨x2,hx2,b2⟩:=hf 2 _ rfl
  simp [cO.2.2.2.2.2.2.2.2.2.2.2.2.2.2.2.2.2.2.2.2.2.2.2.1] at hx0
  simp [cO.2.2.2.2.2.2.2.2.2.2.2.2.2.2.2.2.2.2.2.2.2.2.2.2.1] at hx1
  simp [cO.1] at hx2
  obtain ⟨a,n,cap,ss,q0,h0,-⟩:=open_sts _ _ _ hx0
  obtain ⟨ua,un,ucap,gs,q1,h1⟩:=graphsB _ _ _ hx1 (Nat.le_trans b1 hb)
  obtain ⟨mn,q2,-⟩:=DataW.trod_int Tryz.underlying3 hx2
  simp only [List.cons.injEq,and_true] at q0 q1 q2
  subst q0 q1 q2
  exact ⟨a,n,cap,ua,un,ucap,mn,ss,gs,rfl,h0,h1⟩
theorem turn_alike (out:List Int→Int→Int):∀ (c:Ch) (l:List Int),alikeB c (turnC out l c)=true
 | .leaf k s,l=>by simp [turnC,alikeB]
 | .box c,l=>turn_alike out c l
 | .ref m r c,l=>by simp only [turnC,alikeB,decide_true,Bool.true_and];exact turn_alike out c _
theorem num_ok (n:Int) (fr:Int) (h0:0≤fr):∀ (c:Ch) (l:List Int),c.ok n→(turnC (outN fr) l c).ok n∧(turnC (outN fr) l c).depth=c.depth
 | .leaf k s,l,h=>⟨h,rfl⟩
 | .box c,l,h=>⟨(num_ok n fr h0 c l h).1,by simp only [turnC,Ch.depth];rw [(num_ok n fr h0 c l h).2]⟩
 | .ref m r c,l,h=>by
  obtain ⟨h1,h2⟩:=num_ok n fr h0 c (l++[r]) h.2
  refine ⟨⟨?_,h1⟩,by simp only [turnC,Ch.depth];rw [h2]⟩
  unfold outN
  split <;> omega
theorem num_Ok {fr:Int} (h0:0≤fr) {c:Ch} (h:Ok c):Ok (numC fr c):=⟨(num_ok 32 fr h0 c [] h.ok).1,by unfold numC;rw [(num_ok 32 fr h0 c [] h.ok).2];exact h.deep⟩
theorem numR_at:∀ (cl:List Ch) (lv:Int) (i:Nat) (c:Ch),cl[i]?=some c→(numR lv cl)[i]?=some (numC (cntL lv (cl.take i)) c)
 | [],lv,i,c,h=>by simp at h
 | d::l,lv,0,c,h=>by simp at h;subst h;rfl
 | d::l,lv,i+1,c,h=>by
  simp only [numR,List.getElem?_cons_succ,List.take_succ_cons,cntL] at h ⊢
  exact numR_at l _ i c h
theorem cntL_mono (cl:List Ch):∀ (i:Nat) (lv:Int),lv≤cntL lv (cl.take i)∧cntL lv (cl.take i)≤cntL lv cl:=by
 induction cl with
 | nil=>intro i lv;simp [cntL]
 | cons c l ih =>
  intro i lv
  cases i with
  | zero=>simp only [List.take_zero,cntL];have:=(ih 0 (lv+(negs c.regs:Nat)));simp only [List.take_zero,cntL] at this;omega
  | succ i=>simp only [List.take_succ_cons,cntL];have:=ih i (lv+(negs c.regs:Nat));omega
theorem atR_at (gs:List Grp):∀ (ps:List Pnt) (fr:Int) (i:Nat) (p:Pnt),ps[i]?=some p→(atR gs fr ps)[i]?=some (if 0<made gs p then cntP gs fr (ps.take i) else -1)
 | [],fr,i,p,h=>by simp at h
 | d::l,fr,0,p,h=>by simp at h;subst h;rfl
 | d::l,fr,i+1,p,h=>by
  simp only [atR,List.getElem?_cons_succ,List.take_succ_cons,cntP] at h ⊢
  exact atR_at gs l _ i p h
theorem cntP_mono (gs:List Grp) (ps:List Pnt):∀ (i:Nat) (fr:Int),(∀ p∈ps,0≤made gs p)→fr≤cntP gs fr (ps.take i)∧cntP gs fr (ps.take i)≤cntP gs fr ps:=by
 induction ps with
 | nil=>intro i fr h;simp [cntP]
 | cons c l ih =>
  intro i fr h
  have h0:=h c (by simp)
  have ht:∀ p∈l,0≤made gs p:=fun p hp=>h p (by simp [hp])
  cases i with
  | zero=>simp only [List.take_zero,cntP];have:=(ih 0 (fr+made gs c) ht);simp only [List.take_zero,cntP] at this;omega
  | succ i=>simp only [List.take_succ_cons,cntP];have:=ih i (fr+made gs c) ht;omega
def fgB:Nat→List Grp→Bool
 | _,[]=>true
 | m,g::l=>decide (g.pt.length≤150) && decide (g.lo.length≤150) && decide (m+(g.pt.length+g.lo.length)≤600) && fgB (m+(g.pt.length+g.lo.length)) l
def sumG:Nat→List Grp→Nat
 | m,[]=>m
 | m,g::l=>sumG (m+(g.pt.length+g.lo.length)) l
theorem sumG_snoc:∀ (l:List Grp) (m:Nat) (g:Grp),sumG m (l++[g])=sumG m l+(g.pt.length+g.lo.length)
 | [],m,g=>rfl
 | d::l,m,g=>sumG_snoc l _ g
theorem fgB_drop:∀ (l:List Grp) (m i:Nat) (g:Grp),l[i]?=some g→fgB (sumG m (l.take i)) (l.drop i)=(decide (g.pt.length≤150) && decide (g.lo.length≤150) && decide (sumG m (l.take (i+1))≤600) && fgB (sumG m (l.take (i+1))) (l.drop (i+1)))
 | [],m,i,g,h=>by simp at h
 | d::l,m,0,g,h=>by simp at h;subst h;simp [fgB,sumG]
 | d::l,m,i+1,g,h=>by simp only [List.take_succ_cons,sumG,List.drop_succ_cons];exact fgB_drop l _ i g (by simpa using h)
def fitB (n un:Nat) (ss:List (List Ty)) (gs:List Grp):Bool:=decide (n≤40) && decide (un≤40) && ss.all (fun f=>decide (f.length≤20)) && fgB 0 gs
theorem fitsU_any {w:World} {a ua:Option Addr} {n cap un:Nat} (ucap:Nat) (mn:Int) {ss:List (List Ty)} {gs:List Grp} (hSt:StAt w a n cap ss) (hU:UnAt w ua un gs) (r:Bool) (hr:r=fitB n un ss gs) :
  Calls Tryz.prog 8 #[uV a n cap ua un ucap mn] w fun e w'=>e=.returned (.bool r)∧Below w.heap.size w w':=by
 have HU:Hid (At (w.alloc (uO a n cap ua un ucap mn)) w.heap.size (uO a n cap ua un ucap mn)):=At.new _ _
 have HST:=jH hSt
 have HUN:=jH hU
 have HR:=jH hr
 obtain ⟨V0,hV0⟩:∃ V0,V0=w.alloc (uO a n cap ua un ucap mn):=⟨_,rfl⟩
 have HB0:Hid (Below w.heap.size w V0):=jH (by rw [hV0];exact belA bR)
 rw [← hV0] at HU
 clear hSt hU hr
 obtain ⟨d0,d1,d2⟩:=HU.out.un
 go_enter Tryz.func8,Tryz.ntmps8
 go_upto_region 1 with fail
 rw [← hV0]
 clear hV0
 by_cases hn:n≤40
 rotate_left
 ·have e1:decide (40<(n:Int))=true:=decide_eq_true (by omega)
  have nb:(40:Int)<(n:Int):=by omega
  have er:r=false:=by rw [HR.out];unfold fitB;rw [decide_eq_false hn];rfl
  subst er
  clear hn HR HST HUN
  go_wp2_with fail
  go_ret
  exact ⟨rfl,HB0.out⟩
 have nb:¬ (40:Int)<(n:Int):=by omega
 by_cases hun:un≤40
 rotate_left
 ·have ub:(40:Int)<(un:Int):=by omega
  have er:r=false:=by rw [HR.out];unfold fitB;rw [decide_eq_false hun];simp
  subst er
  clear hn hun HR HST HUN
  go_wp2_with fail
  go_ret
  exact ⟨rfl,HB0.out⟩
 have ub:¬ (40:Int)<(un:Int):=by omega
 have HN:=jH hn
 have HUB:=jH hun
 clear hn hun
 go_wp2_with fail
 clear d0 d1 d2
 go_loopw [4] (fun v V=>∃ i:Nat,i≤n∧v=.int .i64 (i:Int)∧(∀ j fs,j<i→ss[j]?=some fs→fs.length≤20)∧At V w.heap.size (uO a n cap ua un ucap mn)∧Below w.heap.size w V) (fun v _=>n - (intOf v).toNat)
 case atStart=>exact ⟨0,Nat.zero_le _,rfl,fun j fs h=>by omega,HU.out,HB0.out⟩
 case round =>
  clear HU HB0
  obtain ⟨i,hi,rfl,hall,hA,hB⟩:=hrel
  have HALL:=jH hall
  have HU:=jH hA
  have HB0:=jH hB
  clear hall hA hB
  obtain ⟨d0,d1,d2⟩:=HU.out.un
  have n40:(n:Int)≤40:=by have:=HN.out;omega
  by_cases hlt:i<n
  ·obtain ⟨fs,hfs⟩:∃ fs,ss[i]?=some fs:=⟨_,List.getElem?_eq_getElem (by rw [← HST.out.len];exact hlt)⟩
   obtain ⟨g,off,fa,fcap,ea,hg,hc,-⟩:=(HST.out.bel HB0.out).one hfs
   subst ea
   obtain ⟨fl,hfl⟩:∃ fl,fl=fs.length:=⟨_,rfl⟩
   rw [← hfl] at hc
   have HFL:=jH hfl
   have HFS:=jH hfs
   have i0:(0:Int)≤(i:Int):=by omega
   have i1:(i:Int)<(n:Int):=by omega
   have HLT:=jH hlt
   clear hfl hfs hlt hi
   by_cases hb:fl≤20
   ·have b1:¬ (20:Int)<(fl:Int):=by omega
    have HBB:=jH hb
    clear hb
    go_wp2_with fail
    refine ⟨⟨i+1,HLT.out,rfl,fun j f hj hf=>?_,HU.out,HB0.out⟩,?_⟩
    ·rcases Nat.lt_or_ge j i with h|h
     ·exact HALL.out j f h hf
     ·obtain rfl:j=i:=by omega
      rw [HFS.out] at hf
      cases hf
      rw [← HFL.out]
      exact HBB.out
    ·show n - ((i:Int)+1).toNat<n - (i:Int).toNat
     have:=HLT.out
     omega
   ·have b1:(20:Int)<(fl:Int):=by omega
    have er:r=false:=by
     rw [HR.out]
     unfold fitB
     have:ss.all (fun f=>decide (f.length≤20))=false:=by
      rw [List.all_eq_false]
      exact ⟨fs,List.mem_of_getElem? HFS.out,by rw [← HFL.out];simpa using hb⟩
     rw [this]
     simp
    subst er
    clear hb HR
    go_wp2_with fail
    go_ret
    exact ⟨rfl,HB0.out⟩
  ·obtain rfl:i=n:=by omega
   have HA:Hid (ss.all (fun f=>decide (f.length≤20))=true):=jH (by
    rw [List.all_eq_true]
    intro f hf
    obtain ⟨j,hj⟩:=List.getElem?_of_mem hf
    exact decide_eq_true (HALL.out j f (by rw [HST.out.len];exact (List.getElem?_eq_some_iff.1 hj).1) hj))
   clear hlt hi HALL
   have n1:¬ (i:Int)<(i:Int):=by omega
   go_wp2_with fail
   clear d0 d1 d2
   go_loopw [3,5] (fun v3 v V=>∃ k:Nat,k≤un∧v3=.int .i64 (sumG 0 (gs.take k):Int)∧v=.int .i64 (k:Int)∧sumG 0 (gs.take k)≤600∧fgB 0 gs=fgB (sumG 0 (gs.take k)) (gs.drop k)∧At V w.heap.size (uO a i cap ua un ucap mn)∧Below w.heap.size w V) (fun _ v _=>un - (intOf v).toNat)
   case atStart=>exact ⟨0,Nat.zero_le _,rfl,rfl,by simp [sumG],rfl,HU.out,HB0.out⟩
   case round =>
    clear HU HB0
    obtain ⟨k,hk,rfl,rfl,hs6,hfg,hA,hB⟩:=hrel
    have HFG:=jH hfg
    have HU:=jH hA
    have HB0:=jH hB
    clear hA hB
    obtain ⟨d0,d1,d2⟩:=HU.out.un
    obtain ⟨m,hm⟩:∃ m,m=sumG 0 (gs.take k):=⟨_,rfl⟩
    rw [← hm] at hs6 ⊢
    have HM:=jH hm
    have m6:(m:Int)≤600:=by omega
    have u40:(un:Int)≤40:=by have:=HUB.out;omega
    clear hfg hm hs6
    by_cases hlt:k<un
    ·obtain ⟨g,hg⟩:∃ g,gs[k]?=some g:=⟨_,List.getElem?_eq_getElem (by rw [← HUN.out.len];exact hlt)⟩
     obtain ⟨ug,uo,nm,lv,oa,on,oc,pa,la,ln,lc,na,nn,nc,qa,qn,qc,ea,hC7,hG⟩:=HUN.out.at_ k g hg
     subst ea
     have hc7:=(hC7.bel HB0.out).cells
     obtain ⟨-,-,-,-,e4,-,e6⟩:=hc7
     have hln:=hG.lo.len
     have hqn:=hG.pt.len
     have HLN:=jH hln
     have HQN:=jH hqn
     have HFD:=jH (fgB_drop gs 0 k g hg)
     have HSN:Hid (sumG 0 (gs.take (k+1))=m+(qn+ln)):=jH (by rw [List.take_add_one,hg];rw [HM.out,hln,hqn];exact sumG_snoc _ _ _)
     have k0:(0:Int)≤(k:Int):=by omega
     have k1:(k:Int)<(un:Int):=by omega
     have HLT:=jH hlt
     clear hC7 hG hln hqn hg hlt hk
     have AA:Hid (∀ d,At (wr.drewN d) w.heap.size (uO a i cap (some ⟨ug,uo,none⟩) un ucap mn)∧Below w.heap.size w (wr.drewN d)):=jH fun d=>⟨HU.out.drewN d,belN HB0.out d⟩
     by_cases hq:qn≤150
     rotate_left
     ·have q1:(150:Int)<(qn:Int):=by omega
      have er:r=false:=by rw [HR.out];unfold fitB;rw [HFG.out,HFD.out,← HQN.out,decide_eq_false hq];simp
      subst er
      clear hq HR
      go_upto_region 12 with fail
      go_quiet (fail)
      go_wp2_with fail
      go_ret
      exact ⟨rfl,(AA.out _).2⟩
     have q1:¬ (150:Int)<(qn:Int):=by omega
     by_cases hl:ln≤150
     rotate_left
     ·have l1:(150:Int)<(ln:Int):=by omega
      have er:r=false:=by rw [HR.out];unfold fitB;rw [HFG.out,HFD.out,← HLN.out,decide_eq_false hl];simp
      subst er
      clear hq hl HR
      go_upto_region 12 with fail
      go_quiet (fail)
      go_wp2_with fail
      go_ret
      exact ⟨rfl,(AA.out _).2⟩
     have l1:¬ (150:Int)<(ln:Int):=by omega
     have w1:IntKind.i64.wrap ((qn:Int)+(ln:Int))=(qn:Int)+(ln:Int):=by rw [IntKind.wrap_i64];all_goals omega
     have w2:IntKind.i64.wrap ((m:Int)+((qn:Int)+(ln:Int)))=(m:Int)+((qn:Int)+(ln:Int)):=by rw [IntKind.wrap_i64];all_goals omega
     by_cases h6:m+(qn+ln)≤600
     rotate_left
     ·have s1:(600:Int)<(m:Int)+((qn:Int)+(ln:Int)):=by omega
      have er:r=false:=by rw [HR.out];unfold fitB;rw [HFG.out,HFD.out,HSN.out,decide_eq_false h6];simp
      subst er
      clear hq hl h6 HR
      go_upto_region 12 with fail
      go_quiet (fail)
      go_wp2_with fail
      go_ret
      exact ⟨rfl,(AA.out _).2⟩
     have s1:¬ (600:Int)<(m:Int)+((qn:Int)+(ln:Int)):=by omega
     have HQ:=jH hq
     have HL:=jH hl
     have H6:=jH h6
     clear hq hl h6
     go_upto_region 12 with fail
     go_quiet (fail)
     go_wp2_with fail
     refine ⟨⟨k+1,HLT.out,?_,rfl,by rw [HSN.out];exact H6.out,?_,(AA.out _).1,(AA.out _).2⟩,?_⟩
     ·rw [HSN.out];rfl
     ·rw [HFG.out,HFD.out,← HQN.out,← HLN.out,HSN.out,decide_eq_true HQ.out,decide_eq_true HL.out,decide_eq_true H6.out];rfl
     ·show un - ((k:Int)+1).toNat<un - (k:Int).toNat
      have:=HLT.out
      omega
    ·obtain rfl:k=un:=by omega
     have er:r=true:=by
      rw [HR.out]
      unfold fitB
      rw [HFG.out,HA.out,decide_eq_true HN.out,decide_eq_true HUB.out,List.drop_eq_nil_of_le (by rw [← HUN.out.len];exact Nat.le_refl _)]
      rfl
     subst er
     have k1:¬ (k:Int)<(k:Int):=by omega
     clear hlt hk HR
     go_wp2_with fail
     go_ret
     exact ⟨rfl,HB0.out⟩
end Go.Proofs.YtdlggpcakaofoaaGreat
