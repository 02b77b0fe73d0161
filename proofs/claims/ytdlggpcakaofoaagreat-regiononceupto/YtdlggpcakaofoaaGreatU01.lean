import Derived.Test.YtdlggpcakaofoaaGreatB40
import Derived.Test.YtdlggpcakaofoaaGreatO01
import Derived.Test.YtdlggpcakaofoaaGreatRows
import Derived.Laws.OwnMore
namespace Go.Proofs.YtdlggpcakaofoaaGreat
open Go.ChangeShapes Go.WideShapes Go.ChangeAt Go.RowKit Go.Joins Go.Shelf Go.WideElems Go.Maps
set_option linter.unusedVariables false
set_option linter.unusedSimpArgs false
set_option maxRecDepth 100000
set_option maxHeartbeats 8000000
theorem bulk_one {H:Type} (d:DataW H):1≤Rows.uptoBulk d:=by
 cases d with
 | lit l=>cases l <;> simp [Rows.uptoBulk]
 | nil=>simp [Rows.uptoBulk]
 | ptr d=>simp [Rows.uptoBulk]
 | slice elems spare=>simp [Rows.uptoBulk]
 | agg parts=>simp [Rows.uptoBulk]
 | iface t d=>simp [Rows.uptoBulk]
 | map entries=>simp [Rows.uptoBulk]
 | held h=>simp [Rows.uptoBulk]
theorem bulk_part {H:Type} {d:DataW H}:∀ {l:List (DataW H)},d∈l→Rows.uptoBulk d≤Rows.uptoBulkAll l
 | [],h=>by cases h
 | x::r,h=>by
  simp only [Rows.uptoBulkAll]
  cases List.mem_cons.1 h with
  | inl e=>subst e;omega
  | inr e=>have:=bulk_part e;omega
theorem bulk_len {H:Type}:∀ (l:List (DataW H)),l.length≤Rows.uptoBulkAll l
 | []=>by simp
 | x::r=>by have:=bulk_one x;have:=bulk_len r;simp only [Rows.uptoBulkAll,List.length_cons];omega
theorem fldB {H:Type} {enc:TypeId × Value→H} {W:World} {base:Nat} {sp:Nat→Bool} {held:Bool} {t:TypeId} {fs:Array Field} {fuel:Nat} {cs:List Value} {x:DataW H × List MemPlace} (ht:Tryz.prog.underlying t=some (.struct fs)) (h:DataW.trod enc Tryz.prog W base sp held fuel t cs=some x) :
  ∃ n,fuel=n+1∧cs.length=Tryz.prog.cellsOf t∧∀ (i:Nat) (f:Field),fs[i]?=some f→∃ y,DataW.trod enc Tryz.prog W base sp held n f.type ((cs.drop f.offset).take (Tryz.prog.cellsOf f.type))=some y∧Rows.uptoBulk y.1≤Rows.uptoBulk x.1:=by
 obtain ⟨xs,n,hfu,hxx,hl,hlen,hf⟩:=DataW.trod_struct ht h
 refine ⟨n,hfu,hl,fun i f hi=>?_⟩
 have hlt:i<xs.length:=by rw [hlen];have:=(Array.getElem?_eq_some_iff.1 hi).1;exact this
 refine ⟨xs[i],by rw [hf i f hi,List.getElem?_eq_getElem hlt],?_⟩
 have:=bulk_part (d:=xs[i].1) (l:=xs.map (·.1)) (List.mem_map_of_mem (List.getElem_mem hlt))
 rw [hxx]
 simp only [Rows.uptoBulk]
 omega
theorem rowB {H:Type} {enc:TypeId × Value→H} {W:World} {base:Nat} {sp:Nat→Bool} {held:Bool} {t e s:Nat} {Y:Type} (cells:Y→List Value) (Good:Y→Prop) (hu:Tryz.prog.underlying t=some (.slice e)) (hs:Tryz.prog.cellsOf e=s) (h0:0<s) (hlen:∀ y,(cells y).length=s)
  (hel:∀ (m:Nat) (cs:List Value) (x:DataW H × List MemPlace),DataW.trod enc Tryz.prog W base sp held m e cs=some x→Rows.uptoBulk x.1≤1048576→∃ y,cs=cells y∧Good y) (n:Nat) (cs:List Value) (x:DataW H × List MemPlace) (h:DataW.trod enc Tryz.prog W base sp held n t cs=some x) (hb:Rows.uptoBulk x.1≤1048576) :
  ∃ a len cap ys,cs=[.slice a len cap]∧len≤1048576∧RowA W a len cap s cells Good ys:=by
 rcases DataW.trod_slice hu h with ⟨hcs,_⟩|⟨a,len0,cap0,elems,rest,m2,hm2,hcs,hxx,-,hl,hc,hel2,hx,_,_⟩
 ·exact ⟨none,0,0,[],hcs,by omega,RowA.nul _ _ _ _⟩
 ·rw [hs] at hx
  rw [hxx] at hb
  simp only [Rows.uptoBulk] at hb
  have hbl:=bulk_len (elems.map (·.1))
  rw [List.length_map] at hbl
  obtain ⟨ys,h1,h2⟩:=list_pick (List.range len0) (fun i _ (y:Y)=>Good y∧∀ (j:Nat) (v:Value),(cells y)[j]?=some v→W.cell? (a.add (i*s+j))=some v) (fun i k hi=>by
   have hi2:i<len0:=by simpa using (List.getElem?_eq_some_iff.1 hi).1
   have hxi:=hx i hi2
   rw [List.getElem?_eq_getElem (by omega),Option.bind_eq_some_iff] at hxi
   obtain ⟨cs',hc1,hc2⟩:=hxi
   obtain ⟨y,rfl,hy⟩:=hel _ _ _ hc2 (by have:=bulk_part (List.mem_map_of_mem (f:=(·.1)) (List.getElem_mem (l:=elems) (n:=i) (by omega)));omega)
   obtain ⟨_,hln,hcell⟩:=World.cells?_some hc1
   refine ⟨y,hy,fun j v hv=>?_⟩
   have hj:j<s:=by have:=(List.getElem?_eq_some_iff.1 hv).1;rw [hlen] at this;exact this
   have g0:=hcell j (by omega)
   rw [Deep.add_add] at g0
   rw [g0]
   simpa using hv)
  rw [List.length_range] at h1
  refine ⟨some a,len0,cap0,ys,hcs,by omega,h1.symm,hl,hc,(fun e=>by cases e),fun i y hy=>?_⟩
  have hi2:i<len0:=by have:=(List.getElem?_eq_some_iff.1 hy).1;omega
  obtain ⟨y',h3,h4,h5⟩:=h2 i i (by rw [List.getElem?_range hi2])
  rw [hy] at h3
  cases h3
  obtain ⟨b,off,spot⟩:=a
  obtain ⟨y0,h30,h40,h50⟩:=h2 0 0 (by rw [List.getElem?_range (by omega)])
  obtain ⟨v0,hv0⟩:∃ v,(cells y0)[0]?=some v:=⟨_,List.getElem?_eq_getElem (by rw [hlen];exact h0)⟩
  have hc0:=h50 0 v0 hv0
  rw [Nat.zero_mul] at hc0
  have hspot:spot=none:=by simpa [Addr.add] using World.cell?_spot hc0
  subst hspot
  refine ⟨h4,b,off,rfl,?_,fun j v hv=>?_⟩
  ·rw [Addr.add_lit] at hc0
   exact World.block_lt_of_cell? W _ hc0
  ·have:=h5 j v hv
   rw [Addr.add_lit,← Nat.add_assoc] at this
   exact this
theorem opdsB {H:Type} {enc:TypeId × Value→H} {W:World} {base:Nat} {sp:Nat→Bool} {held:Bool} (n:Nat) (cs:List Value) (x:DataW H × List MemPlace) (h:DataW.trod enc Tryz.prog W base sp held n 63 cs=some x) (hb:Rows.uptoBulk x.1≤1048576):∃ a k cap os,cs=[.slice a k cap]∧OL W a k cap os:=by
 obtain ⟨a,len,cap,vs,hcs,hbg,hR⟩:=rowB (W:=W) o4 (fun v=>∃ q,OAt W v q) Tryz.underlying63 cO.2.2.2.2.2.2.2.2.1 (by decide) (fun _=>rfl) (fun m cs x h _=>open_opd m cs x h) n cs x h hb
 obtain ⟨os,h1,h2⟩:=list_pick vs (fun i v q=>OAt W v q) (fun i v hv=>(hR.at_ i v hv).1)
 refine ⟨a,len,cap,os,hcs,by rw [h1];exact hR.len,by omega,hR.nil,fun hne=>?_⟩
 have hpos:0<vs.length:=by rw [← h1];exact List.length_pos_iff.2 hne
 obtain ⟨v,hv⟩:∃ v,vs[0]?=some v:=⟨_,List.getElem?_eq_getElem hpos⟩
 obtain ⟨-,g,off,ea,hg,-⟩:=hR.at_ 0 v hv
 refine ⟨g,off,vs,ea,hg,h1.symm,fun j u hu=>?_,fun i v o hv ho=>?_⟩
 ·have:=oCells_rng (w:=W) (g:=g) (off:=off) vs 0 (fun i v hv=>by
   obtain ⟨-,g',off',ea',-,hr⟩:=hR.at_ i v hv
   rw [ea] at ea'
   cases ea'
   rw [Nat.zero_add]
   exact hr) j u hu
  rwa [Nat.zero_mul,Nat.add_zero] at this
 ·obtain ⟨q,h3,h4⟩:=h2 i v hv
  rw [ho] at h3
  cases h3
  exact h4
theorem pointB {H:Type} {enc:TypeId × Value→H} {W:World} {base:Nat} {sp:Nat→Bool} {held:Bool} (n:Nat) (cs:List Value) (x:DataW H × List MemPlace) (h:DataW.trod enc Tryz.prog W base sp held n 65 cs=some x) (hb:Rows.uptoBulk x.1≤1048576):∃ v:Pv,cs=pC v∧∃ p,PntAt W v p:=by
 obtain ⟨m,hm,hlen,hf⟩:=fldB Tryz.underlying65 h
 rw [cO.2.2.2.2.2.2.2.2.2.2.2.1] at hlen
 match cs,hlen with
 | [c0,c1,c2,c3,c4,c5,c6,c7,c8,c9,c10,c11,c12,c13,c14,c15,c16,c17,c18,c19,c20],_ =>
  obtain ⟨x0,hx0,b0⟩:=hf 0 _ rfl
  replace hx0:DataW.trod enc Tryz.prog W base sp held m 59 [c0]=some x0:=by simpa [cO.2.2.2.2.2.2.2.2.2.2.1] using hx0
  obtain ⟨x1,hx1,b1⟩:=hf 1 _ rfl
  replace hx1:DataW.trod enc Tryz.prog W base sp held m 28 [c1,c2]=some x1:=by simpa [cO.2.2.2.2.2.1] using hx1
  obtain ⟨x2,hx2,b2⟩:=hf 2 _ rfl
  replace hx2:DataW.trod enc Tryz.prog W base sp held m 62 [c3,c4,c5,c6]=some x2:=by simpa [cO.2.2.2.2.2.2.2.2.1] using hx2
  obtain ⟨x3,hx3,b3⟩:=hf 3 _ rfl
  replace hx3:DataW.trod enc Tryz.prog W base sp held m 62 [c7,c8,c9,c10]=some x3:=by simpa [cO.2.2.2.2.2.2.2.2.1] using hx3
  obtain ⟨x4,hx4,b4⟩:=hf 4 _ rfl
  replace hx4:DataW.trod enc Tryz.prog W base sp held m 63 [c11]=some x4:=by simpa [cO.2.2.2.2.2.2.2.2.2.1] using hx4
  obtain ⟨x5,hx5,b5⟩:=hf 5 _ rfl
  replace hx5:DataW.trod enc Tryz.prog W base sp held m 9 [c12]=some x5:=by simpa [cO.2.2.1] using hx5
  obtain ⟨x6,hx6,b6⟩:=hf 6 _ rfl
  replace hx6:DataW.trod enc Tryz.prog W base sp held m 28 [c13,c14]=some x6:=by simpa [cO.2.2.2.2.2.1] using hx6
  obtain ⟨x7,hx7,b7⟩:=hf 7 _ rfl
  replace hx7:DataW.trod enc Tryz.prog W base sp held m 4 [c15]=some x7:=by simpa [cO.2.1] using hx7
  obtain ⟨x8,hx8,b8⟩:=hf 8 _ rfl
  replace hx8:DataW.trod enc Tryz.prog W base sp held m 3 [c16]=some x8:=by simpa [cO.1] using hx8
  obtain ⟨x9,hx9,b9⟩:=hf 9 _ rfl
  replace hx9:DataW.trod enc Tryz.prog W base sp held m 3 [c17]=some x9:=by simpa [cO.1] using hx9
  obtain ⟨x10,hx10,b10⟩:=hf 10 _ rfl
  replace hx10:DataW.trod enc Tryz.prog W base sp held m 3 [c18]=some x10:=by simpa [cO.1] using hx10
  obtain ⟨x11,hx11,b11⟩:=hf 11 _ rfl
  replace hx11:DataW.trod enc Tryz.prog W base sp held m 3 [c19]=some x11:=by simpa [cO.1] using hx11
  obtain ⟨x12,hx12,b12⟩:=hf 12 _ rfl
  replace hx12:DataW.trod enc Tryz.prog W base sp held m 3 [c20]=some x12:=by simpa [cO.1] using hx12
  obtain ⟨op,q0,-,w0⟩:=DataW.trod_int Tryz.underlying59 hx0
  simp [Lit.wf,IntKind.min,IntKind.max,IntKind.signed,IntKind.bits] at w0
  obtain ⟨tp,tpp,q1,h1⟩:=open_plc _ _ _ hx1
  obtain ⟨va,q2,qa,h2⟩:=open_opd _ _ _ hx2
  obtain ⟨vb,q3,qb,h3⟩:=open_opd _ _ _ hx3
  obtain ⟨ra,rn,rc,os,q4,h4⟩:=opdsB _ _ _ hx4 (by omega)
  obtain ⟨sg,q5,-⟩:=DataW.trod_string Tryz.underlying9 hx5
  obtain ⟨fp,fpp,q6,h6⟩:=open_plc _ _ _ hx6
  obtain ⟨mu,q7,-⟩:=DataW.trod_bool Tryz.underlying4 hx7
  obtain ⟨fn,q8,-⟩:=DataW.trod_int Tryz.underlying3 hx8
  obtain ⟨st,q9,-⟩:=DataW.trod_int Tryz.underlying3 hx9
  obtain ⟨nx,q10,-⟩:=DataW.trod_int Tryz.underlying3 hx10
  obtain ⟨el,q11,-⟩:=DataW.trod_int Tryz.underlying3 hx11
  obtain ⟨ps,q12,-⟩:=DataW.trod_int Tryz.underlying3 hx12
  unfold o4 at q2 q3
  simp only [List.cons.injEq,and_true] at q0 q1 q2 q3 q4 q5 q6 q7 q8 q9 q10 q11 q12
  have hk:((op.toNat:Nat):Int)=op:=by omega
  obtain ⟨q1a,q1b⟩:=q1
  obtain ⟨q2a,q2b,q2c,q2d⟩:=q2
  obtain ⟨q3a,q3b,q3c,q3d⟩:=q3
  obtain ⟨q6a,q6b⟩:=q6
  subst q0 q1a q1b q2a q2b q2c q2d q3a q3b q3c q3d q4 q5 q6a q6b q7 q8 q9 q10 q11 q12
  exact ⟨⟨op.toNat,tp,va,vb,ra,rn,rc,sg,fp,mu,fn,st,nx,el,ps⟩,by unfold pC;simp only [hk],⟨op.toNat,⟨tp.l,tpp⟩,qa,qb,os,sg.toList,⟨fp.l,fpp⟩,mu,fn,st,nx,el,ps⟩,rfl,h1,rfl,h2,h3,h4,rfl,h6,rfl,rfl,rfl,rfl,rfl,rfl,rfl⟩
theorem pointsB {H:Type} {enc:TypeId × Value→H} {W:World} {base:Nat} {sp:Nat→Bool} {held:Bool} (n:Nat) (cs:List Value) (x:DataW H × List MemPlace) (h:DataW.trod enc Tryz.prog W base sp held n 68 cs=some x) (hb:Rows.uptoBulk x.1≤1048576):∃ a k cap ps,cs=[.slice a k cap]∧PsL W a k cap ps:=by
 obtain ⟨a,len,cap,vs,hcs,hbg,hR⟩:=rowB (W:=W) pC (fun v=>∃ p,PntAt W v p) Tryz.underlying68 cO.2.2.2.2.2.2.2.2.2.2.2.1 (by decide) (fun _=>rfl) (fun m cs x h hb=>pointB m cs x h hb) n cs x h hb
 obtain ⟨ps,h1,h2⟩:=list_pick vs (fun i v p=>PntAt W v p) (fun i v hv=>(hR.at_ i v hv).1)
 refine ⟨a,len,cap,ps,hcs,by rw [h1];exact hR.len,fun i p hp=>?_⟩
 have hl:i<vs.length:=by have:=(List.getElem?_eq_some_iff.1 hp).1;omega
 obtain ⟨v,hv⟩:∃ v,vs[i]?=some v:=⟨_,List.getElem?_eq_getElem hl⟩
 obtain ⟨p',h3,h4⟩:=h2 i v hv
 rw [hp] at h3
 cases h3
 obtain ⟨-,g,off,ea,hg,hr⟩:=hR.at_ i v hv
 exact ⟨g,off,v,ea,hg,hr,h4⟩
theorem ousB {H:Type} {enc:TypeId × Value→H} {W:World} {base:Nat} {sp:Nat→Bool} {held:Bool} (n:Nat) (cs:List Value) (x:DataW H × List MemPlace) (h:DataW.trod enc Tryz.prog W base sp held n 66 cs=some x) (hb:Rows.uptoBulk x.1≤1048576):∃ a k cap ou,cs=[.slice a k cap]∧OuAt W a k cap ou:=by
 obtain ⟨a,len,cap,ou,hcs,hbg,hR⟩:=rowB (W:=W) (fun o:Int × Int=>[.int .i64 o.1,.int .i64 o.2]) (fun _=>True) Tryz.underlying66 cO.2.2.2.2.2.2.2.2.2.2.2.2.1 (by decide) (fun _=>rfl) (fun m cs x h _=>by
  obtain ⟨m,hm,hlen,hf⟩:=trod_fld Tryz.underlying130 h
  rw [cO.2.2.2.2.2.2.2.2.2.2.2.2.1] at hlen
  match cs,hlen with
  | [c0,c1],_ =>
   obtain ⟨x0,hx0⟩:∃ y,DataW.trod enc Tryz.prog W base sp held m 3 [c0]=some y:=by have:=hf 0 _ rfl;simpa [cO.1] using this
   obtain ⟨x1,hx1⟩:∃ y,DataW.trod enc Tryz.prog W base sp held m 3 [c1]=some y:=by have:=hf 1 _ rfl;simpa [cO.1] using this
   obtain ⟨a,q0,-⟩:=DataW.trod_int Tryz.underlying3 hx0
   obtain ⟨b,q1,-⟩:=DataW.trod_int Tryz.underlying3 hx1
   simp only [List.cons.injEq,and_true] at q0 q1
   subst q0 q1
   exact ⟨(a,b),rfl,trivial⟩) n cs x h hb
 refine ⟨a,len,cap,ou,hcs,hR.len,by omega,fun i o ho=>?_⟩
 obtain ⟨-,g,off,ea,hg,hr⟩:=hR.at_ i o ho
 exact ⟨g,off,ea,hg,hr 0 _ rfl,hr 1 _ rfl⟩
structure GrB (w:World) (v:Gv) (g:Grp):Prop where
 nm:v.nm=g.nm
 gc:GrC w v.nm v.lv v.oa v.on v.oc v.pa v.la v.ln v.lc v.na v.nn v.nc v.qa v.qn v.qc g
theorem graphB {H:Type} {enc:TypeId × Value→H} {W:World} {base:Nat} {sp:Nat→Bool} {held:Bool} (n:Nat) (cs:List Value) (x:DataW H × List MemPlace) (h:DataW.trod enc Tryz.prog W base sp held n 70 cs=some x) (hb:Rows.uptoBulk x.1≤1048576):∃ v:Gv,cs=gC v∧∃ g,GrB W v g:=by
 obtain ⟨m,hm,hlen,hf⟩:=fldB Tryz.underlying70 h
 rw [cO.2.2.2.2.2.2.2.2.2.2.2.2.2.2.2.2.2.1] at hlen
 match cs,hlen with
 | [c0,c1,c2,c3,c4,c5,c6],_ =>
  obtain ⟨x0,hx0,b0⟩:=hf 0 _ rfl
  replace hx0:DataW.trod enc Tryz.prog W base sp held m 9 [c0]=some x0:=by simpa [cO.2.2.1] using hx0
  obtain ⟨x1,hx1,b1⟩:=hf 1 _ rfl
  replace hx1:DataW.trod enc Tryz.prog W base sp held m 3 [c1]=some x1:=by simpa [cO.1] using hx1
  obtain ⟨x2,hx2,b2⟩:=hf 2 _ rfl
  replace hx2:DataW.trod enc Tryz.prog W base sp held m 66 [c2]=some x2:=by simpa [cO.2.2.2.2.2.2.2.2.2.2.2.2.2.1] using hx2
  obtain ⟨x3,hx3,b3⟩:=hf 3 _ rfl
  replace hx3:DataW.trod enc Tryz.prog W base sp held m 3 [c3]=some x3:=by simpa [cO.1] using hx3
  obtain ⟨x4,hx4,b4⟩:=hf 4 _ rfl
  replace hx4:DataW.trod enc Tryz.prog W base sp held m 32 [c4]=some x4:=by simpa [cO.2.2.2.2.2.2.2.2.2.2.2.2.2.2.1] using hx4
  obtain ⟨x5,hx5,b5⟩:=hf 5 _ rfl
  replace hx5:DataW.trod enc Tryz.prog W base sp held m 67 [c5]=some x5:=by simpa [cO.2.2.2.2.2.2.2.2.2.2.2.2.2.2.2.1] using hx5
  obtain ⟨x6,hx6,b6⟩:=hf 6 _ rfl
  replace hx6:DataW.trod enc Tryz.prog W base sp held m 68 [c6]=some x6:=by simpa [cO.2.2.2.2.2.2.2.2.2.2.2.2.2.2.2.2.1] using hx6
  obtain ⟨nm,q0,-⟩:=DataW.trod_string Tryz.underlying9 hx0
  obtain ⟨lv,q1,-⟩:=DataW.trod_int Tryz.underlying3 hx1
  obtain ⟨oa,on,oc,ou,q2,h2⟩:=ousB _ _ _ hx2 (by omega)
  obtain ⟨pa,q3,-⟩:=DataW.trod_int Tryz.underlying3 hx3
  obtain ⟨la,ln,lc,lo,q4,h4,h4b,-,-⟩:=open_types _ _ _ hx4
  obtain ⟨na,nn,nc,ns,q5,h5⟩:=open_names _ _ _ hx5
  obtain ⟨qa,qn,qc,ps,q6,h6⟩:=pointsB _ _ _ hx6 (by omega)
  simp only [List.cons.injEq,and_true] at q0 q1 q2 q3 q4 q5 q6
  subst q0 q1 q2 q3 q4 q5 q6
  exact ⟨⟨nm,lv,oa,on,oc,pa,la,ln,lc,na,nn,nc,qa,qn,qc⟩,rfl,⟨nm,lv,ou,pa,lo,ns,ps⟩,rfl,⟨rfl,rfl,h2,h4,h4b,h5.len,h6⟩⟩
theorem graphsB {H:Type} {enc:TypeId × Value→H} {W:World} {base:Nat} {sp:Nat→Bool} {held:Bool} (n:Nat) (cs:List Value) (x:DataW H × List MemPlace) (h:DataW.trod enc Tryz.prog W base sp held n 23 cs=some x) (hb:Rows.uptoBulk x.1≤1048576):∃ a k cap gs,cs=[.slice a k cap]∧UnAt W a k gs:=by
 obtain ⟨a,len,cap,vs,hcs,hbg,hR⟩:=rowB (W:=W) gC (fun v=>∃ p,GrB W v p) Tryz.underlying23 cO.2.2.2.2.2.2.2.2.2.2.2.2.2.2.2.2.2.1 (by decide) (fun _=>rfl) (fun m cs x h hb=>graphB m cs x h hb) n cs x h hb
 obtain ⟨gs,h1,h2⟩:=list_pick vs (fun i v p=>GrB W v p) (fun i v hv=>(hR.at_ i v hv).1)
 refine ⟨a,len,cap,gs,hcs,by rw [h1];exact hR.len,fun i p hp=>?_⟩
 have hl:i<vs.length:=by have:=(List.getElem?_eq_some_iff.1 hp).1;omega
 obtain ⟨v,hv⟩:∃ v,vs[i]?=some v:=⟨_,List.getElem?_eq_getElem hl⟩
 obtain ⟨p',h3,h4⟩:=h2 i v hv
 rw [hp] at h3
 cases h3
 obtain ⟨-,g,off,ea,hg,hr⟩:=hR.at_ i v hv
 exact ⟨g,off,v.nm,v.lv,v.oa,v.on,v.oc,v.pa,v.la,v.ln,v.lc,v.na,v.nn,v.nc,v.qa,v.qn,v.qc,ea,⟨hg,hr⟩,h4.gc⟩
theorem unitO {H:Type} {enc:TypeId × Value→H} {W:World} {r:Reach} {b0 base:Nat} {v:Value} {d:DataW H} {p:List MemPlace} {held:Bool} (hval:Value.okWide Tryz.prog W r b0 25 v) (h:DataW.Trod enc Tryz.prog W base (fun _=>true) held 25 v d p) (hb:Rows.uptoBulk d≤1048576) :
  ∃ a n cap ua un ucap mn ss gs,v=uV a n cap ua un ucap mn∧StAt W a n cap ss∧UnAt W ua un gs:=by
 obtain ⟨cs0,rfl,hsz⟩:=okWide_struct Tryz.underlying25 hval
 rw [cO.2.2.2.2.2.2.2.2.2.2.2.2.2.2.2.2.2.2.2.2.2.2.2.2.2] at hsz
 obtain ⟨fuel,hf0⟩:=h
 obtain ⟨l⟩:=cs0
 match l,hsz with
 | [c0,c1,c2],_ =>
  obtain ⟨m,hm,hlen,hf⟩:=fldB Tryz.underlying25 hf0
  simp only [Value.cells] at hf
  obtain ⟨x0,hx0,b0⟩:=hf 0 _ rfl
  obtain ⟨x1,hx1,b1⟩:=hf 1 _ rfl
  obtain ⟨x2,hx2,b2⟩:=hf 2 _ rfl
  simp [cO.2.2.2.2.2.2.2.2.2.2.2.2.2.2.2.2.2.2.2.2.2.2.2.1] at hx0
  simp [cO.2.2.2.2.2.2.2.2.2.2.2.2.2.2.2.2.2.2.2.2.2.2.2.2.1] at hx1
  simp [cO.1] at hx2
  obtain ⟨a,n,cap,ss,q0,h0,-⟩:=open_sts _ _ _ hx0
  obtain ⟨ua,un,ucap,gs,q1,h1⟩:=graphsB _ _ _ hx1 (Nat.le_trans b1 hb)
  obtain ⟨mn,q2,-⟩:=DataW.trod_int Tryz.underlying3 hx2
  simp only [List.cons.injEq,and_true] at q0 q1 q2
  subst q0 q1 q2
  exact ⟨a,n,cap,ua,un,ucap,mn,ss,gs,rfl,h0,h1⟩
theorem turn_regs (out:List Int→Int→Int):∀ (c:Ch) (l:List Int),(turnC out l c).regs.length=c.regs.length∧∀ (k:Nat) (r:Int),c.regs[k]?=some r→(turnC out l c).regs[k]?=some (out (l++c.regs.take k) r)
 | .leaf _ _,l=>⟨rfl,fun k r h=>by simp [Ch.regs] at h⟩
 | .box c,l=>turn_regs out c l
 | .ref m r0 c,l=>by
  obtain ⟨h1,h2⟩:=turn_regs out c (l++[r0])
  refine ⟨by simp only [turnC,Ch.regs,List.length_cons,h1],fun k r h=>?_⟩
  cases k with
  | zero =>
   simp only [Ch.regs,List.getElem?_cons_zero,Option.some.injEq] at h
   subst h
   simp only [turnC,Ch.regs,List.getElem?_cons_zero,List.take_zero,List.append_nil]
  | succ k =>
   simp only [Ch.regs,List.getElem?_cons_succ] at h
   have:=h2 k r h
   simp only [turnC,Ch.regs,List.getElem?_cons_succ,List.take_succ_cons]
   rw [this,List.append_assoc]
   rfl
theorem turn_alike (out:List Int→Int→Int):∀ (c:Ch) (l:List Int),alikeB c (turnC out l c)=true
 | .leaf k s,l=>by simp [turnC,alikeB]
 | .box c,l=>turn_alike out c l
 | .ref m r c,l=>by simp only [turnC,alikeB,decide_true,Bool.true_and];exact turn_alike out c _
theorem num_ok (n:Int) (fr:Int) (h0:0≤fr):∀ (c:Ch) (l:List Int),c.ok n→(turnC (outN fr) l c).ok n∧(turnC (outN fr) l c).depth=c.depth
 | .leaf k s,l,h=>⟨h,rfl⟩
 | .box c,l,h=>⟨(num_ok n fr h0 c l h).1,by simp only [turnC,Ch.depth];rw [(num_ok n fr h0 c l h).2]⟩
 | .ref m r c,l,h=>by
  obtain ⟨h1,h2⟩:=num_ok n fr h0 c (l++[r]) h.2
  refine ⟨⟨?_,h1⟩,by simp only [turnC,Ch.depth];rw [h2]⟩
  unfold outN
  split <;> omega
theorem num_Ok {fr:Int} (h0:0≤fr) {c:Ch} (h:Ok c):Ok (numC fr c):=⟨(num_ok 32 fr h0 c [] h.ok).1,by unfold numC;rw [(num_ok 32 fr h0 c [] h.ok).2];exact h.deep⟩
def mk1 (lv m:Int) (cn:Nat):List Int:=(List.range cn).map fun (x:Nat)=>if lv≤(x:Int)∧(x:Int)<m then 1 else 0
theorem mk1_len (lv m:Int) (cn:Nat):(mk1 lv m cn).length=cn:=by simp [mk1]
theorem mk1_at (lv m:Int) (cn x:Nat) (h:x<cn):(mk1 lv m cn)[x]?=some (if lv≤(x:Int)∧(x:Int)<m then 1 else 0):=by simp [mk1,h]
theorem mk1_zero (lv:Int) (cn:Nat):mk1 lv lv cn=List.replicate cn 0:=by
 apply List.ext_getElem?
 intro i
 by_cases h:i<cn
 ·rw [mk1_at _ _ _ _ h,List.getElem?_replicate,if_pos h,if_neg (by omega)]
 ·rw [List.getElem?_eq_none (by rw [mk1_len];omega),List.getElem?_eq_none (by simp;omega)]
theorem mk1_set (lv m:Int) (cn x:Nat) (hx:m=(x:Int)) (h1:lv≤m) (h2:x<cn):(mk1 lv m cn).set x 1=mk1 lv (m+1) cn:=by
 apply List.ext_getElem?
 intro i
 by_cases h:i<cn
 ·rw [mk1_at _ _ _ _ h,List.getElem?_set]
  by_cases e:x=i
  ·subst e
   rw [if_pos rfl,if_pos (by rw [mk1_len];exact h),if_pos (by omega)]
  ·rw [if_neg e,mk1_at _ _ _ _ h]
   congr 1
   by_cases hh:lv≤(i:Int)∧(i:Int)<m
   ·rw [if_pos hh,if_pos (by omega)]
   ·rw [if_neg hh,if_neg (by omega)]
 ·rw [List.getElem?_eq_none (by rw [List.length_set,mk1_len];omega),List.getElem?_eq_none (by rw [mk1_len];omega)]
theorem mk1_old (lv m:Int) (cn x:Nat) (hx:m=(x:Int)) (h2:x<cn):(mk1 lv m cn)[x]?=some 0:=by
 rw [mk1_at _ _ _ _ h2,if_neg (by omega)]
theorem mk1_low (lv m:Int) (cn x:Nat) (hx:(x:Int)<lv) (h2:x<cn):(mk1 lv m cn)[x]?=some 0:=by
 rw [mk1_at _ _ _ _ h2,if_neg (by omega)]
theorem mk1_high (lv m:Int) (cn x:Nat) (hx:lv≤(x:Int)) (h1:(x:Int)<m) (h2:x<cn):(mk1 lv m cn)[x]?=some 1:=by
 rw [mk1_at _ _ _ _ h2,if_pos (by omega)]
theorem negs_take (l:List Int) (k:Nat) (r:Int) (h:l[k]?=some r):negs (l.take (k+1))=negs (l.take k)+(if r<0 then 1 else 0):=by
 rw [List.take_add_one,h]
 exact negs_snoc _ _
theorem negs_mono (l:List Int) (k:Nat):negs (l.take k)≤negs l:=by
 unfold negs
 exact ((List.take_sublist k l).filter _).length_le
theorem cntL_take (lv:Int) (cl:List Ch) (i:Nat) (c:Ch) (h:cl[i]?=some c):cntL lv (cl.take (i+1))=cntL lv (cl.take i)+(negs c.regs:Nat):=by
 rw [List.take_add_one,h]
 exact cntL_snoc _ _ _
theorem numR_at:∀ (cl:List Ch) (lv:Int) (i:Nat) (c:Ch),cl[i]?=some c→(numR lv cl)[i]?=some (numC (cntL lv (cl.take i)) c)
 | [],lv,i,c,h=>by simp at h
 | d::l,lv,0,c,h=>by simp at h;subst h;rfl
 | d::l,lv,i+1,c,h=>by
  simp only [numR,List.getElem?_cons_succ,List.take_succ_cons,cntL] at h ⊢
  exact numR_at l _ i c h
theorem cntL_mono (cl:List Ch):∀ (i:Nat) (lv:Int),lv≤cntL lv (cl.take i)∧cntL lv (cl.take i)≤cntL lv cl:=by
 induction cl with
 | nil=>intro i lv;simp [cntL]
 | cons c l ih =>
  intro i lv
  cases i with
  | zero=>simp only [List.take_zero,cntL];have:=(ih 0 (lv+(negs c.regs:Nat)));simp only [List.take_zero,cntL] at this;omega
  | succ i=>simp only [List.take_succ_cons,cntL];have:=ih i (lv+(negs c.regs:Nat));omega
theorem cntP_take (gs:List Grp) (fr:Int) (ps:List Pnt) (i:Nat) (p:Pnt) (h:ps[i]?=some p):cntP gs fr (ps.take (i+1))=cntP gs fr (ps.take i)+made gs p:=by
 rw [List.take_add_one,h]
 exact cntP_snoc _ _ _ _
theorem atR_at (gs:List Grp):∀ (ps:List Pnt) (fr:Int) (i:Nat) (p:Pnt),ps[i]?=some p→(atR gs fr ps)[i]?=some (if 0<made gs p then cntP gs fr (ps.take i) else -1)
 | [],fr,i,p,h=>by simp at h
 | d::l,fr,0,p,h=>by simp at h;subst h;rfl
 | d::l,fr,i+1,p,h=>by
  simp only [atR,List.getElem?_cons_succ,List.take_succ_cons,cntP] at h ⊢
  exact atR_at gs l _ i p h
theorem cntP_mono (gs:List Grp) (ps:List Pnt):∀ (i:Nat) (fr:Int),(∀ p∈ps,0≤made gs p)→fr≤cntP gs fr (ps.take i)∧cntP gs fr (ps.take i)≤cntP gs fr ps:=by
 induction ps with
 | nil=>intro i fr h;simp [cntP]
 | cons c l ih =>
  intro i fr h
  have h0:=h c (by simp)
  have ht:∀ p∈l,0≤made gs p:=fun p hp=>h p (by simp [hp])
  cases i with
  | zero=>simp only [List.take_zero,cntP];have:=(ih 0 (fr+made gs c) ht);simp only [List.take_zero,cntP] at this;omega
  | succ i=>simp only [List.take_succ_cons,cntP];have:=ih i (fr+made gs c) ht;omega
def fgB:Nat→List Grp→Bool
 | _,[]=>true
 | m,g::l=>decide (g.pt.length≤150) && decide (g.lo.length≤150) && decide (m+(g.pt.length+g.lo.length)≤600) && fgB (m+(g.pt.length+g.lo.length)) l
def sumG:Nat→List Grp→Nat
 | m,[]=>m
 | m,g::l=>sumG (m+(g.pt.length+g.lo.length)) l
theorem sumG_snoc:∀ (l:List Grp) (m:Nat) (g:Grp),sumG m (l++[g])=sumG m l+(g.pt.length+g.lo.length)
 | [],m,g=>rfl
 | d::l,m,g=>sumG_snoc l _ g
theorem fgB_drop:∀ (l:List Grp) (m i:Nat) (g:Grp),l[i]?=some g→fgB (sumG m (l.take i)) (l.drop i)=(decide (g.pt.length≤150) && decide (g.lo.length≤150) && decide (sumG m (l.take (i+1))≤600) && fgB (sumG m (l.take (i+1))) (l.drop (i+1)))
 | [],m,i,g,h=>by simp at h
 | d::l,m,0,g,h=>by simp at h;subst h;simp [fgB,sumG]
 | d::l,m,i+1,g,h=>by simp only [List.take_succ_cons,sumG,List.drop_succ_cons];exact fgB_drop l _ i g (by simpa using h)
def fitB (n un:Nat) (ss:List (List Ty)) (gs:List Grp):Bool:=decide (n≤40) && decide (un≤40) && ss.all (fun f=>decide (f.length≤20)) && fgB 0 gs
theorem fitsU_any {w:World} {a ua:Option Addr} {n cap un:Nat} (ucap:Nat) (mn:Int) {ss:List (List Ty)} {gs:List Grp} (hSt:StAt w a n cap ss) (hU:UnAt w ua un gs) (r:Bool) (hr:r=fitB n un ss gs) :
  Calls Tryz.prog 8 #[uV a n cap ua un ucap mn] w fun e w'=>e=.returned (.bool r)∧Below w.heap.size w w':=by
 have HU:Hid (At (w.alloc (uO a n cap ua un ucap mn)) w.heap.size (uO a n cap ua un ucap mn)):=At.new _ _
 have HST:=jH hSt
 have HUN:=jH hU
 have HR:=jH hr
 obtain ⟨V0,hV0⟩:∃ V0,V0=w.alloc (uO a n cap ua un ucap mn):=⟨_,rfl⟩
 have HB0:Hid (Below w.heap.size w V0):=jH (by rw [hV0];exact belA bR)
 rw [← hV0] at HU
 clear hSt hU hr
 obtain ⟨d0,d1,d2⟩:=HU.out.un
 go_enter Tryz.func8,Tryz.ntmps8
 go_upto_region 1 with fail
 rw [← hV0]
 clear hV0
 by_cases hn:n≤40
 rotate_left
 ·have e1:decide (40<(n:Int))=true:=decide_eq_true (by omega)
  have nb:(40:Int)<(n:Int):=by omega
  have er:r=false:=by rw [HR.out];unfold fitB;rw [decide_eq_false hn];rfl
  subst er
  clear hn HR HST HUN
  go_wp2_with fail
  go_ret
  exact ⟨rfl,HB0.out⟩
 have nb:¬ (40:Int)<(n:Int):=by omega
 by_cases hun:un≤40
 rotate_left
 ·have ub:(40:Int)<(un:Int):=by omega
  have er:r=false:=by rw [HR.out];unfold fitB;rw [decide_eq_false hun];simp
  subst er
  clear hn hun HR HST HUN
  go_wp2_with fail
  go_ret
  exact ⟨rfl,HB0.out⟩
 have ub:¬ (40:Int)<(un:Int):=by omega
 have HN:=jH hn
 have HUB:=jH hun
 clear hn hun
 go_wp2_with fail
 clear d0 d1 d2
 go_loopw [4] (fun v V=>∃ i:Nat,i≤n∧v=.int .i64 (i:Int)∧(∀ j fs,j<i→ss[j]?=some fs→fs.length≤20)∧At V w.heap.size (uO a n cap ua un ucap mn)∧Below w.heap.size w V) (fun v _=>n - (intOf v).toNat)
 case atStart=>exact ⟨0,Nat.zero_le _,rfl,fun j fs h=>by omega,HU.out,HB0.out⟩
 case round =>
  clear HU HB0
  obtain ⟨i,hi,rfl,hall,hA,hB⟩:=hrel
  have HALL:=jH hall
  have HU:=jH hA
  have HB0:=jH hB
  clear hall hA hB
  obtain ⟨d0,d1,d2⟩:=HU.out.un
  have n40:(n:Int)≤40:=by have:=HN.out;omega
  by_cases hlt:i<n
  ·obtain ⟨fs,hfs⟩:∃ fs,ss[i]?=some fs:=⟨_,List.getElem?_eq_getElem (by rw [← HST.out.len];exact hlt)⟩
   obtain ⟨g,off,fa,fcap,ea,hg,hc,-⟩:=(HST.out.bel HB0.out).one hfs
   subst ea
   obtain ⟨fl,hfl⟩:∃ fl,fl=fs.length:=⟨_,rfl⟩
   rw [← hfl] at hc
   have HFL:=jH hfl
   have HFS:=jH hfs
   have i0:(0:Int)≤(i:Int):=by omega
   have i1:(i:Int)<(n:Int):=by omega
   have HLT:=jH hlt
   clear hfl hfs hlt hi
   by_cases hb:fl≤20
   ·have b1:¬ (20:Int)<(fl:Int):=by omega
    have HBB:=jH hb
    clear hb
    go_wp2_with fail
    refine ⟨⟨i+1,HLT.out,rfl,fun j f hj hf=>?_,HU.out,HB0.out⟩,?_⟩
    ·rcases Nat.lt_or_ge j i with h|h
     ·exact HALL.out j f h hf
     ·obtain rfl:j=i:=by omega
      rw [HFS.out] at hf
      cases hf
      rw [← HFL.out]
      exact HBB.out
    ·show n - ((i:Int)+1).toNat<n - (i:Int).toNat
     have:=HLT.out
     omega
   ·have b1:(20:Int)<(fl:Int):=by omega
    have er:r=false:=by
     rw [HR.out]
     unfold fitB
     have:ss.all (fun f=>decide (f.length≤20))=false:=by
      rw [List.all_eq_false]
      exact ⟨fs,List.mem_of_getElem? HFS.out,by rw [← HFL.out];simpa using hb⟩
     rw [this]
     simp
    subst er
    clear hb HR
    go_wp2_with fail
    go_ret
    exact ⟨rfl,HB0.out⟩
  ·obtain rfl:i=n:=by omega
   have HA:Hid (ss.all (fun f=>decide (f.length≤20))=true):=jH (by
    rw [List.all_eq_true]
    intro f hf
    obtain ⟨j,hj⟩:=List.getElem?_of_mem hf
    exact decide_eq_true (HALL.out j f (by rw [HST.out.len];exact (List.getElem?_eq_some_iff.1 hj).1) hj))
   clear hlt hi HALL
   have n1:¬ (i:Int)<(i:Int):=by omega
   go_wp2_with fail
   clear d0 d1 d2
   go_loopw [3,5] (fun v3 v V=>∃ k:Nat,k≤un∧v3=.int .i64 (sumG 0 (gs.take k):Int)∧v=.int .i64 (k:Int)∧sumG 0 (gs.take k)≤600∧fgB 0 gs=fgB (sumG 0 (gs.take k)) (gs.drop k)∧At V w.heap.size (uO a i cap ua un ucap mn)∧Below w.heap.size w V) (fun _ v _=>un - (intOf v).toNat)
   case atStart=>exact ⟨0,Nat.zero_le _,rfl,rfl,by simp [sumG],rfl,HU.out,HB0.out⟩
   case round =>
    clear HU HB0
    obtain ⟨k,hk,rfl,rfl,hs6,hfg,hA,hB⟩:=hrel
    have HFG:=jH hfg
    have HU:=jH hA
    have HB0:=jH hB
    clear hA hB
    obtain ⟨d0,d1,d2⟩:=HU.out.un
    obtain ⟨m,hm⟩:∃ m,m=sumG 0 (gs.take k):=⟨_,rfl⟩
    rw [← hm] at hs6 ⊢
    have HM:=jH hm
    have m6:(m:Int)≤600:=by omega
    have u40:(un:Int)≤40:=by have:=HUB.out;omega
    clear hfg hm hs6
    by_cases hlt:k<un
    ·obtain ⟨g,hg⟩:∃ g,gs[k]?=some g:=⟨_,List.getElem?_eq_getElem (by rw [← HUN.out.len];exact hlt)⟩
     obtain ⟨ug,uo,nm,lv,oa,on,oc,pa,la,ln,lc,na,nn,nc,qa,qn,qc,ea,hC7,hG⟩:=HUN.out.at_ k g hg
     subst ea
     have hc7:=(hC7.bel HB0.out).cells
     obtain ⟨-,-,-,-,e4,-,e6⟩:=hc7
     have hln:=hG.lo.len
     have hqn:=hG.pt.len
     have HLN:=jH hln
     have HQN:=jH hqn
     have HFD:=jH (fgB_drop gs 0 k g hg)
     have HSN:Hid (sumG 0 (gs.take (k+1))=m+(qn+ln)):=jH (by rw [List.take_add_one,hg];rw [HM.out,hln,hqn];exact sumG_snoc _ _ _)
     have k0:(0:Int)≤(k:Int):=by omega
     have k1:(k:Int)<(un:Int):=by omega
     have HLT:=jH hlt
     clear hC7 hG hln hqn hg hlt hk
     have AA:Hid (∀ d,At (wr.drewN d) w.heap.size (uO a i cap (some ⟨ug,uo,none⟩) un ucap mn)∧Below w.heap.size w (wr.drewN d)):=jH fun d=>⟨HU.out.drewN d,belN HB0.out d⟩
     by_cases hq:qn≤150
     rotate_left
     ·have q1:(150:Int)<(qn:Int):=by omega
      have er:r=false:=by rw [HR.out];unfold fitB;rw [HFG.out,HFD.out,← HQN.out,decide_eq_false hq];simp
      subst er
      clear hq HR
      go_upto_region 12 with fail
      go_quiet (fail)
      go_wp2_with fail
      go_ret
      exact ⟨rfl,(AA.out _).2⟩
     have q1:¬ (150:Int)<(qn:Int):=by omega
     by_cases hl:ln≤150
     rotate_left
     ·have l1:(150:Int)<(ln:Int):=by omega
      have er:r=false:=by rw [HR.out];unfold fitB;rw [HFG.out,HFD.out,← HLN.out,decide_eq_false hl];simp
      subst er
      clear hq hl HR
      go_upto_region 12 with fail
      go_quiet (fail)
      go_wp2_with fail
      go_ret
      exact ⟨rfl,(AA.out _).2⟩
     have l1:¬ (150:Int)<(ln:Int):=by omega
     have w1:IntKind.i64.wrap ((qn:Int)+(ln:Int))=(qn:Int)+(ln:Int):=by rw [IntKind.wrap_i64];all_goals omega
     have w2:IntKind.i64.wrap ((m:Int)+((qn:Int)+(ln:Int)))=(m:Int)+((qn:Int)+(ln:Int)):=by rw [IntKind.wrap_i64];all_goals omega
     by_cases h6:m+(qn+ln)≤600
     rotate_left
     ·have s1:(600:Int)<(m:Int)+((qn:Int)+(ln:Int)):=by omega
      have er:r=false:=by rw [HR.out];unfold fitB;rw [HFG.out,HFD.out,HSN.out,decide_eq_false h6];simp
      subst er
      clear hq hl h6 HR
      go_upto_region 12 with fail
      go_quiet (fail)
      go_wp2_with fail
      go_ret
      exact ⟨rfl,(AA.out _).2⟩
     have s1:¬ (600:Int)<(m:Int)+((qn:Int)+(ln:Int)):=by omega
     have HQ:=jH hq
     have HL:=jH hl
     have H6:=jH h6
     clear hq hl h6
     go_upto_region 12 with fail
     go_quiet (fail)
     go_wp2_with fail
     refine ⟨⟨k+1,HLT.out,?_,rfl,by rw [HSN.out];exact H6.out,?_,(AA.out _).1,(AA.out _).2⟩,?_⟩
     ·rw [HSN.out];rfl
     ·rw [HFG.out,HFD.out,← HQN.out,← HLN.out,HSN.out,decide_eq_true HQ.out,decide_eq_true HL.out,decide_eq_true H6.out];rfl
     ·show un - ((k:Int)+1).toNat<un - (k:Int).toNat
      have:=HLT.out
      omega
    ·obtain rfl:k=un:=by omega
     have er:r=true:=by
      rw [HR.out]
      unfold fitB
      rw [HFG.out,HA.out,decide_eq_true HN.out,decide_eq_true HUB.out,List.drop_eq_nil_of_le (by rw [← HUN.out.len];exact Nat.le_refl _)]
      rfl
     subst er
     have k1:¬ (k:Int)<(k:Int):=by omega
     clear hlt hk HR
     go_wp2_with fail
     go_ret
     exact ⟨rfl,HB0.out⟩
theorem isGraph_no {w:World} {a ua:Option Addr} {n cap un ucap:Nat} {mn:Int} (fn:Int) (mb:Bool) (h:∀ W,Below w.heap.size w W→Calls Tryz.prog 32 #[uV a n cap ua un ucap mn] W fun e w'=>e=.returned (.bool mb)∧Below W.heap.size W w') (hn:fn<0∨(un:Int)≤fn∨mb=false):Calls Tryz.prog 42 #[uV a n cap ua un ucap mn,.int .i64 fn] w fun e w'=>e=.returned (.bool false)∧Below w.heap.size w w':=by
 have CM:=jH (h (w.alloc (uO a n cap ua un ucap mn)) (belA bR))
 have HB0:Hid (Below w.heap.size w (w.alloc (uO a n cap ua un ucap mn))):=jH (belA bR)
 clear h
 by_cases h0:fn<0
 ·have e0:¬ (0:Int)≤fn:=by omega
  clear hn CM h0
  go_enter Tryz.func42,Tryz.ntmps42
  go_wp2_with fail
  go_ret
  exact ⟨rfl,HB0.out⟩
 ·have e0:(0:Int)≤fn:=by omega
  by_cases h1:(un:Int)≤fn
  ·have e1:¬ fn<(un:Int):=by omega
   clear hn CM h0 h1
   go_enter Tryz.func42,Tryz.ntmps42
   go_wp2_with fail
   go_ret
   exact ⟨rfl,HB0.out⟩
  ·have e1:fn<(un:Int):=by omega
   obtain rfl:mb=false:=by rcases hn with h|h|h <;> first|exact absurd h h0|exact absurd h h1|exact h
   clear hn h0 h1 HB0
   go_enter Tryz.func42,Tryz.ntmps42
   go_wp2_with (go_at_call 32;refine CM.out.mono ?_;rintro e w5 ⟨rfl,hb5⟩;have HB5:=jH (below1 hb5);clear hb5)
   go_ret
   exact ⟨rfl,HB5.out⟩
theorem Of_no {w:World} {a ua:Option Addr} {n cap un ucap:Nat} {mn:Int} (fn:Int) (mb:Bool) (h:∀ W,Below w.heap.size w W→Calls Tryz.prog 32 #[uV a n cap ua un ucap mn] W fun e w'=>e=.returned (.bool mb)∧Below W.heap.size W w') (hn:fn<0∨(un:Int)≤fn∨mb=false) :
  Calls Tryz.prog 11 #[uV a n cap ua un ucap mn,.int .i64 fn] w fun e w'=>e=.returned (.tuple #[rgV 0 0 0 (.slice none 0 0) (.slice none 0 0),.int .i64 2])∧Below w.heap.size w w':=by
 obtain ⟨V,hV⟩:∃ V,V=(w.alloc (uO a n cap ua un ucap mn)).alloc (rgO 0 0 0 (.slice none 0 0) (.slice none 0 0)):=⟨_,rfl⟩
 have hB:Below w.heap.size w V:=by rw [hV];exact belA (belA bR)
 have A2:Hid (At V w.heap.size (uO a n cap ua un ucap mn)):=jH (by rw [hV];exact (At.new _ _).alloc _)
 have A4:Hid (At V (w.heap.size+1) (rgO 0 0 0 (.slice none 0 0) (.slice none 0 0))):=jH (by rw [hV];exact at_snd _ _ _)
 have hz:Hid (V.heap.size=w.heap.size+2):=jH (by rw [hV];simp only [World.size_alloc])
 have CG:=jH (isGraph_no (w:=V) fn mb (fun W hW=>h W (jB hB hW)) hn)
 have HB:=jH hB
 have HV:=jH hV
 clear h hn hB hV
 go_enter Tryz.func11,Tryz.ntmps11
 go_upto_region 1 with fail
 change Code.wp _ _ _ _ ((w.alloc (uO a n cap ua un ucap mn)).alloc (rgO 0 0 0 (.slice none 0 0) (.slice none 0 0)))
 rw [← HV.out]
 clear HV
 obtain ⟨u0,u1,u2⟩:=A2.out.un
 go_wp2_with (first
  | (go_at_call 42;refine CG.out.mono ?_;rintro e w1 ⟨rfl,hb1⟩;have HB1:=jH hb1;have HA4:=jH (A4.out.below hb1);clear hb1 u0 u1 u2)
  | ((with_reducible show wpList _ _ _ (Oper.mk none (Op.store 35 _ _) _ _ _ none::_) _ _);refine wpl_storeR (w.heap.size+1) 0 0 0 none 0 0 none 0 0 HA4.out rfl rfl ?_;intro w9 h9 hb9;have H9:=jH h9;have HB9:=jH hb9;clear h9 hb9))
 have s1:=HB1.out.size
 have s2:=hz.out
 exact bodyPost_ret (results_r2 (v:=.int .i64 2) (lv:=0) (np:=0) (cn:=0) (vL:=.slice none 0 0) (vA:=.slice none 0 0) Tryz.results11 rfl rfl H9.out) rfl ⟨rfl,(jB HB.out HB1.out).grown HB9.out (by have:=HB.out.size;omega) (fun k e=>by cases e;omega)⟩
theorem Of_big {w:World} {a ua:Option Addr} {n cap un ucap:Nat} {mn:Int} {gs:List Grp} {j:Nat} {g:Grp} {cl:List Ch} {fc:Nat→List Ch} (h:UG1 w a ua n cap un ucap mn gs j g cl fc) (hc:512<cntP gs (cntL g.lv cl) g.pt) :
  Calls Tryz.prog 11 #[uV a n cap ua un ucap mn,.int .i64 (j:Int)] w fun e w'=>e=.returned (.tuple #[rgV 0 0 0 (.slice none 0 0) (.slice none 0 0),.int .i64 5])∧Below w.heap.size w w':=by
 obtain ⟨V,hV⟩:∃ V,V=(w.alloc (uO a n cap ua un ucap mn)).alloc (rgO 0 0 0 (.slice none 0 0) (.slice none 0 0)):=⟨_,rfl⟩
 have hB:Below w.heap.size w V:=by rw [hV];exact belA (belA bR)
 have A2:Hid (At V w.heap.size (uO a n cap ua un ucap mn)):=jH (by rw [hV];exact (At.new _ _).alloc _)
 have A4:Hid (At V (w.heap.size+1) (rgO 0 0 0 (.slice none 0 0) (.slice none 0 0))):=jH (by rw [hV];exact at_snd _ _ _)
 have hz:Hid (V.heap.size=w.heap.size+2):=jH (by rw [hV];simp only [World.size_alloc])
 have CG:=jH (isGraph_yes (h.bel hB))
 have CR:Hid (∀ W,Below V.heap.size V W→Calls Tryz.prog 43 #[uV a n cap ua un ucap mn,.int .i64 (j:Int)] W fun e w'=>e=.returned (.tuple #[rgV 0 0 0 (.slice none 0 0) (.slice none 0 0),.int .i64 5])∧Below W.heap.size W w'):=jH fun W hW=>(regionsOf_any (a:=a) (n:=n) (cap:=cap) ucap mn (h.rg.bel (jB hB hW))).mono fun e w' k=>⟨k.1.2 hc,k.2⟩
 have HB:=jH hB
 have HV:=jH hV
 clear h hc hB hV
 go_enter Tryz.func11,Tryz.ntmps11
 go_upto_region 1 with fail
 change Code.wp _ _ _ _ ((w.alloc (uO a n cap ua un ucap mn)).alloc (rgO 0 0 0 (.slice none 0 0) (.slice none 0 0)))
 rw [← HV.out]
 clear HV
 obtain ⟨u0,u1,u2⟩:=A2.out.un
 go_wp2_with (first
  | (go_at_call 42;refine CG.out.mono ?_;rintro e w1 ⟨rfl,hb1⟩;have HB1:=jH hb1;clear u0 u1 u2;obtain ⟨u0,u1,u2⟩:=(A2.out.below hb1).un;clear hb1)
  | (go_at_call 43;refine (CR.out w1 HB1.out).mono ?_;rintro e w2 ⟨rfl,hb2⟩;have HB2:=jH (jB HB1.out hb2);have HA4:=jH ((A4.out.below HB1.out).below hb2);clear hb2 u0 u1 u2)
  | ((with_reducible show wpList _ _ _ (Oper.mk none (Op.store 35 _ _) _ _ _ none::_) _ _);refine wpl_storeR (w.heap.size+1) 0 0 0 none 0 0 none 0 0 HA4.out rfl rfl ?_;intro w9 h9 hb9;have H9:=jH h9;have HB9:=jH hb9;clear h9 hb9))
 have s1:=HB2.out.size
 have s2:=hz.out
 exact bodyPost_ret (results_r2 (v:=.int .i64 5) (lv:=0) (np:=0) (cn:=0) (vL:=.slice none 0 0) (vA:=.slice none 0 0) Tryz.results11 rfl rfl H9.out) rfl ⟨rfl,(jB HB.out HB2.out).grown HB9.out (by have:=HB.out.size;omega) (fun k e=>by cases e;omega)⟩
theorem once_big {w:World} {a ua:Option Addr} {n cap un ucap:Nat} {mn:Int} (fn:Int) (hF:∀ W,Below w.heap.size w W→Calls Tryz.prog 8 #[uV a n cap ua un ucap mn] W fun e w'=>e=.returned (.bool false)∧Below W.heap.size W w'):Calls Tryz.prog 6 #[uV a n cap ua un ucap mn,.int .i64 fn] w fun e w'=>e=.returned (.bool true)∧Below w.heap.size w w':=by
 have CA:Hid (∀ W,Calls Tryz.prog 9 #[] W fun e w'=>e=.returned (.bool true)∧Below W.heap.size W w'):=awake_true
 have CF:=jH (hF (w.alloc (uO a n cap ua un ucap mn)) (belA bR))
 clear hF
 go_enter Tryz.func6,Tryz.ntmps6
 go_wp2_with (first
  | (go_at_call 8;refine CF.out.mono ?_;rintro e w1 ⟨rfl,hb1⟩;have HB1:=jH (below1 hb1);clear hb1)
  | (go_at_call 9;refine (CA.out _).mono ?_;rintro e w7 ⟨rfl,hb7⟩;have HB7:=jH hb7;clear hb7))
 go_ret
 exact ⟨rfl,jB HB1.out HB7.out⟩
theorem oneR (w:World):At (w.alloc (rgO 0 0 0 (.slice none 0 0) (.slice none 0 0))) w.heap.size (rgO 0 0 0 (.slice none 0 0) (.slice none 0 0)):=At.new _ _
theorem once_no {w:World} {a ua:Option Addr} {n cap un ucap:Nat} {mn:Int} (fn:Int) (mb:Bool) (er:Int) (hF:∀ W,Below w.heap.size w W→Calls Tryz.prog 8 #[uV a n cap ua un ucap mn] W fun e w'=>e=.returned (.bool true)∧Below W.heap.size W w')
  (hM:∀ W,Below w.heap.size w W→Calls Tryz.prog 32 #[uV a n cap ua un ucap mn] W fun e w'=>e=.returned (.bool mb)∧Below W.heap.size W w')
  (hO:∀ W,Below w.heap.size w W→Calls Tryz.prog 11 #[uV a n cap ua un ucap mn,.int .i64 fn] W fun e w'=>e=.returned (.tuple #[rgV 0 0 0 (.slice none 0 0) (.slice none 0 0),.int .i64 er])∧Below W.heap.size W w')
  (hn:er=2∧(fn<0∨(un:Int)≤fn∨mb=false)∨er=5∧0≤fn∧fn<(un:Int)∧mb=true):Calls Tryz.prog 6 #[uV a n cap ua un ucap mn,.int .i64 fn] w fun e w'=>e=.returned (.bool true)∧Below w.heap.size w w':=by
 have CA:Hid (∀ W,Calls Tryz.prog 9 #[] W fun e w'=>e=.returned (.bool true)∧Below W.heap.size W w'):=awake_true
 obtain ⟨V,hV⟩:∃ V,V=w.alloc (uO a n cap ua un ucap mn):=⟨_,rfl⟩
 have hB:Below w.heap.size w V:=by rw [hV];exact belA bR
 have A2:Hid (At V w.heap.size (uO a n cap ua un ucap mn)):=jH (by rw [hV];exact At.new _ _)
 have CF:=jH (hF V hB)
 have CM:Hid (∀ W,Below V.heap.size V W→Calls Tryz.prog 32 #[uV a n cap ua un ucap mn] W fun e w'=>e=.returned (.bool mb)∧Below W.heap.size W w'):=jH fun W hW=>hM W (jB hB hW)
 have CO:Hid (∀ W,Below V.heap.size V W→Calls Tryz.prog 11 #[uV a n cap ua un ucap mn,.int .i64 fn] W fun e w'=>e=.returned (.tuple #[rgV 0 0 0 (.slice none 0 0) (.slice none 0 0),.int .i64 er])∧Below W.heap.size W w'):=jH fun W hW=>hO W (jB hB hW)
 have HB:=jH hB
 have HV:=jH hV
 have HN:=jH hn
 have e0:((er == 0)=false):=by rcases hn with h|h <;> (rw [h.1];rfl)
 clear hF hM hO hn hB hV
 go_enter Tryz.func6,Tryz.ntmps6
 go_upto_region 1 with fail
 change Code.wp _ _ _ _ (w.alloc (uO a n cap ua un ucap mn))
 rw [← HV.out]
 clear HV
 obtain ⟨u0,u1,u2⟩:=A2.out.un
 go_upto_region 5 with (first
  | (go_at_call 8;refine CF.out.mono ?_;rintro e w1 ⟨rfl,hb1⟩;have HB1:=jH hb1;clear u0 u1 u2;obtain ⟨u0,u1,u2⟩:=(A2.out.below hb1).un;clear hb1)
  | (go_at_call 11;refine (CO.out w1 HB1.out).mono ?_;rintro e w2 ⟨rfl,hb2⟩;have HB2:=jH (jB HB1.out hb2);clear hb2 u0 u1 u2)
  | ((with_reducible show wpList _ _ _ (Oper.mk none (Op.store 35 _ _) _ _ _ none::_) _ _);refine wpl_storeR w2.heap.size 0 0 0 none 0 0 none 0 0 (oneR w2) rfl rfl ?_;intro w9 h9 hb9;have H9:=jH h9;have HB9:=jH hb9;clear h9 hb9))
 have HB3:Hid (Below V.heap.size V w9):=jH ((belA HB2.out).grown HB9.out (by simp only [World.size_alloc];have:=HB2.out.size;omega) (fun k e=>by cases e;exact HB2.out.size))
 obtain ⟨r0,r1,r2,r3,r4⟩:=H9.out.rg
 obtain ⟨u0,u1,u2⟩:=(A2.out.below HB3.out).un
 have hlt:=H9.out.lt
 generalize w2.heap.size=b5 at *
 clear HB9
 have FIN:Hid (∀ W W',Below w9.heap.size w9 W→Below W.heap.size W W'→Below w.heap.size w W'):=jH fun W W' h1 h2=>jB (jB (jB HB.out HB3.out) h1) h2
 rcases HN.out with ⟨rfl,h⟩|⟨rfl,h0,h1,rfl⟩
 ·cases mb with
  | false =>
   clear h HN
   go_wp2_with (first
    | (go_at_call 32;refine (CM.out _ HB3.out).mono ?_;rintro e w5 ⟨rfl,hb5⟩;have HB5:=jH hb5;clear hb5)
    | (go_at_call 9;refine (CA.out _).mono ?_;rintro e w7 ⟨rfl,hb7⟩;have HB7:=jH hb7;clear hb7))
   go_ret
   exact ⟨rfl,FIN.out _ _ HB5.out HB7.out⟩
  | true =>
   have h2:fn<0∨(un:Int)≤fn:=by rcases h with h|h|h <;> first|exact .inl h|exact .inr h|cases h
   clear h HN
   by_cases f0:fn<0
   ·clear h2
    go_wp2_with (first
     | (go_at_call 32;refine (CM.out _ HB3.out).mono ?_;rintro e w5 ⟨rfl,hb5⟩;have HB5:=jH hb5;clear hb5)
     | (go_at_call 9;refine (CA.out _).mono ?_;rintro e w7 ⟨rfl,hb7⟩;have HB7:=jH hb7;clear hb7))
    go_ret
    exact ⟨rfl,FIN.out _ _ HB5.out HB7.out⟩
   ·have f1:(un:Int)≤fn:=by rcases h2 with h|h <;> omega
    clear h2
    go_wp2_with (first
     | (go_at_call 32;refine (CM.out _ HB3.out).mono ?_;rintro e w5 ⟨rfl,hb5⟩;obtain ⟨u0,u1,u2⟩:=((A2.out.below HB3.out).below hb5).un;have HB5:=jH hb5;clear hb5)
     | (go_at_call 9;refine (CA.out _).mono ?_;rintro e w7 ⟨rfl,hb7⟩;have HB7:=jH hb7;clear hb7))
    go_ret
    exact ⟨rfl,FIN.out _ _ HB5.out HB7.out⟩
 ·have f0:¬ fn<0:=by omega
  have f1:¬ (un:Int)≤fn:=by omega
  clear h0 h1 HN
  go_wp2_with (first
   | (go_at_call 32;refine (CM.out _ HB3.out).mono ?_;rintro e w5 ⟨rfl,hb5⟩;obtain ⟨u0,u1,u2⟩:=((A2.out.below HB3.out).below hb5).un;have HB5:=jH hb5;clear hb5)
   | (go_at_call 9;refine (CA.out _).mono ?_;rintro e w7 ⟨rfl,hb7⟩;have HB7:=jH hb7;clear hb7))
  go_ret
  refine ⟨?_,FIN.out _ _ HB5.out HB7.out⟩
  show Ending.returned (.bool (!decide (fn<0) && !decide ((un:Int)≤fn)))=_
  rw [decide_eq_false (show ¬ fn<0 by omega),decide_eq_false (show ¬ (un:Int)≤fn by omega)]
  rfl
structure Mt (U V:World) (lv m:Int) (cn:Nat):Prop where
 row:V.ownsRow U.heap.size 3 1 (.slice (some ⟨U.heap.size,0,none⟩) cn cn) cn (iCells (mk1 lv m cn))
 bel:Below U.heap.size U V
theorem Mt.below {U V W:World} {lv m:Int} {cn:Nat} (h:Mt U V lv m cn) (k:Below V.heap.size V W):Mt U W lv m cn:=⟨own_bel h.row k,jB h.bel k⟩
theorem Mt.next {U V:World} {lv m:Int} {cn x:Nat} (h:Mt U V lv m cn) (hx:m=(x:Int)) (h1:lv≤m) (h2:x<cn):Mt U (V.setCell ⟨U.heap.size,x,none⟩ (.int .i64 1)) lv (m+1) cn:=by
 refine ⟨?_,h.bel.setCell (Nat.le_refl _) _⟩
 have:=(h.row.stored x (.int .i64 1)).1
 rw [← mk1_set lv m cn x hx h1 h2]
 unfold iCells at this ⊢
 rw [List.map_set]
 exact this
theorem Mt.cell {U V:World} {lv m:Int} {cn:Nat} (h:Mt U V lv m cn) {x:Nat} {v:Int} (hv:(mk1 lv m cn)[x]?=some v):V.cell? ⟨U.heap.size,x,none⟩=some (.int .i64 v):=(own_cell h.row (by unfold iCells;rw [List.getElem?_map,hv];rfl)).1
theorem Mt.fz {U V:World} {lv m:Int} {cn:Nat} (h:Mt U V lv m cn) (x:Nat):V.frozen? ⟨U.heap.size,x,none⟩=false:=h.row.frozenAt x
theorem Mt.lt {U V:World} {lv m:Int} {cn:Nat} (h:Mt U V lv m cn):U.heap.size<V.heap.size:=(h.row.lt _ rfl).2
theorem Mt.start {U V:World} {lv:Int} {cn:Nat} (h:V.ownsRow U.heap.size 3 1 (.slice (some ⟨U.heap.size,0,none⟩) cn cn) cn (madeCells (Value.int .i64 0).cells (cn*1)).toList) (hg:U.grownBy V none):Mt U V lv lv cn:=by
 refine ⟨?_,bR.grown hg (Nat.le_refl _) (fun k e=>by cases e)⟩
 rw [mk1_zero]
 rw [show (Value.int .i64 0).cells=#[Value.int .i64 0] from rfl,toList_madeCells_one,Nat.mul_one] at h
 unfold iCells
 rw [List.map_replicate]
 exact h
theorem own_at {W:World} {B n:Nat} {a:Option Addr} {cap:Nat} {L:List Int} (h:W.ownsRow B 3 1 (.slice a n cap) n (iCells L)) (k:Nat) (x:Int) (hk:L[k]?=some x):∃ g,a=some ⟨g,0,none⟩∧B≤g∧g<W.heap.size∧W.cell? ⟨g,k,none⟩=some (.int .i64 x):=by
 have hl:L.length=n:=by have:=h.1;simpa [iCells] using this
 have hlt:=(List.getElem?_eq_some_iff.1 hk).1
 obtain ⟨g,c,e⟩:=own_is h (by omega)
 cases e
 exact ⟨g,rfl,own_lo h g rfl,(h.lt _ rfl).2,(own_cell h (by unfold iCells;rw [List.getElem?_map,hk];rfl)).1⟩
theorem own_off {W:World} {B e s n b:Nat} {v:Value} {xs:List Value} (h:W.ownsRow B e s v n xs) (hb:b<B) (x:Nat) (u:Value):(W.setCell ⟨b,x,none⟩ u).ownsRow B e s v n xs:=own_grow h (But.set (But.refl _ _) x u) (fun g hg e=>by have:=own_lo h g hg;have:=Option.some.inj e;omega)
structure Oc (w U:World) (b5 b7:Nat) (a ua:Option Addr) (n cap un ucap:Nat) (mn:Int) (gs:List Grp) (g:Grp) (cl:List Ch) (nm:ByteArray) (lv:Int) (oa:Option Addr) (on oc:Nat) (pa:Int) (la:Option Addr) (ln lc:Nat) (na:Option Addr) (nn nc:Nat) (qa:Option Addr) (qn qc:Nat) (cn:Nat) (aL:Option Addr) (cL:Nat) (aA:Option Addr) (cA:Nat):Prop where
 a2:At U w.heap.size (uO a n cap ua un ucap mn)
 a5:At U b5 (rgO lv qn cn (.slice aL ln cL) (.slice aA qn cA))
 c7:C7 U b7 0 nm lv oa on oc pa la ln lc na nn nc qa qn qc
 row:∃ fl lo hi,FRow U w.heap.size (.slice aL ln cL) (numR lv cl) fl lo hi
 ats:U.ownsRow w.heap.size 3 1 (.slice aA qn cA) qn (iCells (atR gs (cntL lv cl) g.pt))
 lo:LcAt U la ln lc (cl.map Ch.ty)
 pt:PsL U qa qn qc g.pt
 bel:Below w.heap.size w U
theorem Oc.lcl {w U:World} {b5 b7:Nat} {a ua:Option Addr} {n cap un ucap:Nat} {mn:Int} {gs:List Grp} {g:Grp} {cl:List Ch} {nm:ByteArray} {lv:Int} {oa:Option Addr} {on oc:Nat} {pa:Int} {la:Option Addr} {ln lc:Nat} {na:Option Addr} {nn nc:Nat} {qa:Option Addr} {qn qc:Nat} {cn:Nat} {aL:Option Addr} {cL:Nat} {aA:Option Addr} {cA:Nat}
  (h:Oc w U b5 b7 a ua n cap un ucap mn gs g cl nm lv oa on oc pa la ln lc na nn nc qa qn qc cn aL cL aA cA) {i:Nat} {c:Ch} (hi:cl[i]?=some c) (hr:(numC (cntL lv (cl.take i)) c).rg):∃ lg lo rg,∃ f f':Fv,la=some ⟨lg,lo,none⟩∧aL=some ⟨rg,0,none⟩∧∀ V,Below U.heap.size U V→C5 V lg (lo+i*5) f∧TyAt V f c.ty∧C5 V rg (i*5) f'∧TyAt V f' (numC (cntL lv (cl.take i)) c).ty:=by
 obtain ⟨lg,lo,f,e1,h1,h2⟩:=h.lo.one (i:=i) (t:=c.ty) (by rw [List.getElem?_map,hi];rfl)
 obtain ⟨fl,lo',hi',hF⟩:=h.row
 have hl:i<(numR lv cl).length:=by rw [numR_len];exact (List.getElem?_eq_some_iff.1 hi).1
 obtain ⟨rg,cap',d,f',e2,h3,h4,h5,h6,h7,h8⟩:=hF.at (n:=0) hl
 rw [numR_at cl lv i c hi] at h5
 cases h5
 cases e2
 have t8:=h8.ty hr
 exact ⟨lg,lo,rg,f,f',e1,rfl,fun V hV=>⟨C5.below h1 hV,h2.bel hV,C5.below h7 hV,t8.bel hV⟩⟩
end Go.Proofs.YtdlggpcakaofoaaGreat
