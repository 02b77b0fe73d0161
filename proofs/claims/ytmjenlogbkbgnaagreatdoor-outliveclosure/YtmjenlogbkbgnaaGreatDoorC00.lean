import Derived.Test.YtmjenlogbkbgnaaGreatDoorB19
import Derived.Below
namespace Go.Proofs.YtmjenlogbkbgnaaGreatDoor
open Go.RowKit Go.Shelf
set_option linter.unusedVariables false
set_option linter.unusedSimpArgs false
theorem setCells_at (b t:Nat):∀ (vs:List Value) (o:Nat) (w:World) (C:Array Value),At w b (.cells C t (0,0))→∃ C':Array Value,At (w.setCells b o vs) b (.cells C' t (0,0))∧C'.size=C.size∧(∀ i,i<o→C'[i]?=C[i]?)∧(∀ i,i<vs.length→o+i<C.size→C'[o+i]?=vs[i]?)∧(∀ i,o+vs.length≤i→C'[i]?=C[i]?)
 | [],o,w,C,h=>⟨C,h,rfl,fun _ _=>rfl,fun i hi=>by simp at hi,fun _ _=>rfl⟩
 | v::r,o,w,C,h=>by
  have h1:At (w.setCell ⟨b,o,none⟩ v) b (.cells (C.setIfInBounds o v) t (0,0)):=heap_setCell_same w b o C t v h
  obtain ⟨C',k1,k2,k3,k4,k5⟩:=setCells_at b t r (o+1) _ _ h1
  refine ⟨C',k1,by rw [k2,Array.size_setIfInBounds],fun i hi=>?_,fun i hi ho=>?_,fun i hi=>?_⟩
  ·rw [k3 i (by omega),Array.getElem?_setIfInBounds_ne (by omega)]
  ·cases i with
   | zero =>
    rw [Nat.add_zero,k3 o (by omega)]
    simp at ho ⊢
    simp [ho]
   | succ i =>
    rw [show o+(i+1)=o+1+i by omega]
    rw [k4 i (by simp at hi;omega) (by rw [Array.size_setIfInBounds];omega)]
    rfl
  ·simp at hi
   rw [k5 i (by omega),Array.getElem?_setIfInBounds_ne (by omega)]
def pC (p:Pv):List Value:=[.int .u8 (p.op:Int),.int .i64 p.tp.l,.slice p.tp.a p.tp.n p.tp.cap,.int .u8 (p.a.k:Int),.int .i64 p.a.n,.int .i64 p.a.x.l,.slice p.a.x.a p.a.x.n p.a.x.cap,.int .u8 (p.b.k:Int),.int .i64 p.b.n,.int .i64 p.b.x.l,.slice p.b.x.a p.b.x.n p.b.x.cap,.slice p.ra p.rn p.rc,.string p.sg,.int .i64 p.fp.l,.slice p.fp.a p.fp.n p.fp.cap,.bool p.mu,.int .i64 p.fn,.int .i64 p.st,.int .i64 p.nx,.int .i64 p.el,.int .i64 p.ps]
structure PntAt (w:World) (v:Pv) (p:Pnt):Prop where
 op:v.op=p.op
 tp:PAt w v.tp p.to.p
 tl:v.tp.l=p.to.l
 a:OAt w v.a p.a
 b:OAt w v.b p.b
 ar:OL w v.ra v.rn v.rc p.args
 sg:v.sg.toList=p.sg
 fp:PAt w v.fp p.fr.p
 fl:v.fp.l=p.fr.l
 mu:v.mu=p.mu
 fn:v.fn=p.fn
 st:v.st=p.st
 nx:v.nx=p.nx
 el:v.el=p.el
 ps:v.ps=p.pos
structure PsL (w:World) (qa:Option Addr) (qn qc:Nat) (ps:List Pnt):Prop where
 len:qn=ps.length
 at_:∀ (i:Nat) (p:Pnt),ps[i]?=some p→∃ g off v,qa=some ⟨g,off,none⟩∧g<w.heap.size∧w.rangeAt g (off+i*21) (pC v)∧PntAt w v p
theorem PntAt.bel {w w':World} {v:Pv} {p:Pnt} (h:PntAt w v p) (hb:Below w.heap.size w w'):PntAt w' v p:=⟨h.op,h.tp.bel hb,h.tl,h.a.bel hb,h.b.bel hb,h.ar.bel hb,h.sg,h.fp.bel hb,h.fl,h.mu,h.fn,h.st,h.nx,h.el,h.ps⟩
theorem rng_bel {w w':World} {g o:Nat} {cs:List Value} (hg:g<w.heap.size) (h:w.rangeAt g o cs) (hb:Below w.heap.size w w'):w'.rangeAt g o cs:=fun j v hv=>(cells_bel hg hb _).trans (h j v hv)
theorem PsL.bel {w w':World} {qa:Option Addr} {qn qc:Nat} {ps:List Pnt} (h:PsL w qa qn qc ps) (hb:Below w.heap.size w w'):PsL w' qa qn qc ps :=
 ⟨h.len,fun i p hi=>by
  obtain ⟨g,off,v,e,hg,hr,hp⟩:=h.at_ i p hi
  exact ⟨g,off,v,e,Nat.lt_of_lt_of_le hg hb.size,rng_bel hg hr hb,hp.bel hb⟩⟩
theorem rng_app {w:World} {b o:Nat} {l m:List Value} (h:w.rangeAt b o (l++m)):w.rangeAt b o l∧w.rangeAt b (o+l.length) m :=
 ⟨fun j v hv=>h j v (by rw [List.getElem?_append_left (List.getElem?_eq_some_iff.1 hv).1];exact hv),fun j v hv=>by
  have:=h (l.length+j) v (by rw [List.getElem?_append_right (by omega),Nat.add_sub_cancel_left];exact hv)
  rw [Nat.add_assoc]
  exact this⟩
def scL (p:Pv) (a:Option Addr) (n cap:Nat) (ua:Option Addr) (un ucap:Nat) (mn:Int) (nm:ByteArray) (lv:Int) (oa:Option Addr) (on oc:Nat) (pa:Int) (la:Option Addr) (ln lc:Nat) (na:Option Addr) (nn nc:Nat) (qa:Option Addr) (qn qc:Nat) (dr:Nat→Bool):List Value :=
 pC p++([.slice a n cap,.slice ua un ucap,.int .i64 mn]++([.string nm,.int .i64 lv,.slice oa on oc,.int .i64 pa,.slice la ln lc,.slice na nn nc,.slice qa qn qc]++((List.range 32).map (bV dr)++(g7 zG++(g7 zG++[.slice none 0 0])))))
theorem size146:(Tryz.prog.info? 248).map (·.size)=some 78:=by kernel_rfl
theorem scs_new {w:World} {b:Nat} {p:Pv} {a:Option Addr} {n cap:Nat} {ua:Option Addr} {un ucap:Nat} {mn:Int} {nm:ByteArray} {lv:Int} {oa:Option Addr} {on oc:Nat} {pa:Int} {la:Option Addr} {ln lc:Nat} {na:Option Addr} {nn nc:Nat} {qa:Option Addr} {qn qc:Nat} {dr:Nat→Bool}
  (h:w.rangeAt b 0 (scL p a n cap ua un ucap mn nm lv oa on oc pa la ln lc na nn nc qa qn qc dr)) (ht:w.there b 0 78) (hl:b<w.heap.size):ScS w b ⟨p,a,n,cap,ua,un,ucap,mn,nm,lv,oa,on,oc,pa,la,ln,lc,na,nn,nc,qa,qn,qc,dr,zG,zG,none,0,0⟩:=by
 unfold scL at h
 obtain ⟨h1,h⟩:=rng_app h
 obtain ⟨h2,h⟩:=rng_app h
 obtain ⟨h3,h⟩:=rng_app h
 obtain ⟨h4,h⟩:=rng_app h
 obtain ⟨h5,h⟩:=rng_app h
 obtain ⟨h6,h7⟩:=rng_app h
 have g2:w.rangeAt b 21 [.slice a n cap,.slice ua un ucap,.int .i64 mn]:=h2
 have g3:w.rangeAt b 24 [.string nm,.int .i64 lv,.slice oa on oc,.int .i64 pa,.slice la ln lc,.slice na nn nc,.slice qa qn qc]:=h3
 have g4:w.rangeAt b 31 ((List.range 32).map (bV dr)):=h4
 rw [List.length_map,List.length_range] at h5 h6 h7
 have g5:w.rangeAt b 63 (g7 zG):=h5
 have g6:w.rangeAt b 70 (g7 zG):=h6
 have g7':w.rangeAt b 77 [.slice none 0 0]:=h7
 obtain ⟨r0,r1,r2⟩:=rng_c5 g5 hl
 obtain ⟨s0,s1,s2⟩:=rng_c5 g6 hl
 have k1:∀ (j:Nat) (v:Value),(pC p)[j]?=some v→w.cell? ⟨b,j,none⟩=some v:=fun j v hv=>by have:=h1 j v hv;rwa [Nat.zero_add] at this
 exact { th:=ht,lt:=hl,pt:=⟨hl,k1 0 _ rfl,k1 1 _ rfl,k1 2 _ rfl,k1 3 _ rfl,k1 4 _ rfl,k1 5 _ rfl,k1 6 _ rfl,k1 7 _ rfl,k1 8 _ rfl,k1 9 _ rfl,k1 10 _ rfl,k1 11 _ rfl,k1 12 _ rfl,k1 13 _ rfl,k1 14 _ rfl,k1 15 _ rfl,k1 16 _ rfl,k1 17 _ rfl,k1 18 _ rfl,k1 19 _ rfl,k1 20 _ rfl⟩,c21:=g2 0 _ rfl,c22:=g2 1 _ rfl,c23:=g2 2 _ rfl,c24:=g3 0 _ rfl,c25:=g3 1 _ rfl,c26:=g3 2 _ rfl,c27:=g3 3 _ rfl,c28:=g3 4 _ rfl,c29:=g3 5 _ rfl,c30:=g3 6 _ rfl,dr:=fun i hi=>g4 i _ (by rw [List.getElem?_map,List.getElem?_range hi];rfl),tw:=r0,t68:=r1,t69:=r2,fw:=s0,f75:=s1,f76:=s2,c77:=g7' 0 _ rfl }
theorem ones_sc (p:Pv) (a:Option Addr) (n cap:Nat) (ua:Option Addr) (un ucap:Nat) (mn:Int) (nm:ByteArray) (lv:Int) (oa:Option Addr) (on oc:Nat) (pa:Int) (la:Option Addr) (ln lc:Nat) (na:Option Addr) (nn nc:Nat) (qa:Option Addr) (qn qc:Nat) (dr:Nat→Bool):∀ v∈scL p a n cap ua un ucap mn nm lv oa on oc pa la ln lc na nn nc qa qn qc dr,v.oneCell'=true:=by
 have h1:∀ v∈pC p,v.oneCell'=true:=by simp [pC,Value.oneCell']
 have h4:∀ v∈(List.range 32).map (bV dr),v.oneCell'=true:=fun v hv=>by
  rw [List.mem_map] at hv
  obtain ⟨i,-,rfl⟩:=hv
  rfl
 intro v hv
 unfold scL at hv
 simp only [List.mem_append] at hv
 rcases hv with hv|hv|hv|hv|hv|hv|hv
 ·exact h1 v hv
 ·simp at hv;rcases hv with rfl|rfl|rfl <;> rfl
 ·simp at hv;rcases hv with rfl|rfl|rfl|rfl|rfl|rfl|rfl <;> rfl
 ·exact h4 v hv
 ·exact g7_ones zG v hv
 ·exact g7_ones zG v hv
 ·simp at hv;subst hv;rfl
theorem scL_len (p:Pv) (a:Option Addr) (n cap:Nat) (ua:Option Addr) (un ucap:Nat) (mn:Int) (nm:ByteArray) (lv:Int) (oa:Option Addr) (on oc:Nat) (pa:Int) (la:Option Addr) (ln lc:Nat) (na:Option Addr) (nn nc:Nat) (qa:Option Addr) (qn qc:Nat) (dr:Nat→Bool):(scL p a n cap ua un ucap mn nm lv oa on oc pa la ln lc na nn nc qa qn qc dr).length=78:=by
 simp [scL,pC,g7]
theorem run_build146 (p:Pv) (a:Option Addr) (n cap:Nat) (ua:Option Addr) (un ucap:Nat) (mn:Int) (nm:ByteArray) (lv:Int) (oa:Option Addr) (on oc:Nat) (pa:Int) (la:Option Addr) (ln lc:Nat) (na:Option Addr) (nn nc:Nat) (qa:Option Addr) (qn qc:Nat) (dr:Nat→Bool) (w:World) :
  (Instr.build 248 #[(0,.agg (pC p).toArray),(1,.agg #[.slice a n cap,.slice ua un ucap,.int .i64 mn]),(2,.agg #[.string nm,.int .i64 lv,.slice oa on oc,.int .i64 pa,.slice la ln lc,.slice na nn nc,.slice qa qn qc]),(3,.agg (arr (bV dr)))]).run Tryz.prog w=.ok (.agg (scL p a n cap ua un ucap mn nm lv oa on oc pa la ln lc na nn nc qa qn qc dr).toArray) w:=by kernel_rfl
theorem wpl_build146 {w:World} {ops:Array Oper} {rest:List Oper} {a9:Act} {Q:Exit→Act→World→Prop} {t1 t2 t3 t4 d:Nat} {ty:TypeId} {pos:String} {after:Array Edge} (p:Pv) (a:Option Addr) (n cap:Nat) (ua:Option Addr) (un ucap:Nat) (mn:Int) (nm:ByteArray) (lv:Int) (oa:Option Addr) (on oc:Nat) (pa:Int) (la:Option Addr) (ln lc:Nat) (na:Option Addr) (nn nc:Nat) (qa:Option Addr) (qn qc:Nat) (dr:Nat→Bool)
  (h1:a9.eval (.tmp t1)=.agg (pC p).toArray) (h2:a9.eval (.tmp t2)=.agg #[.slice a n cap,.slice ua un ucap,.int .i64 mn]) (h3:a9.eval (.tmp t3)=.agg #[.string nm,.int .i64 lv,.slice oa on oc,.int .i64 pa,.slice la ln lc,.slice na nn nc,.slice qa qn qc]) (h4:a9.eval (.tmp t4)=.agg (arr (bV dr)))
  (h:wpList Tryz.prog ops Q rest (a9.put (some d) (.agg (scL p a n cap ua un ucap mn nm lv oa on oc pa la ln lc na nn nc qa qn qc dr).toArray)) w):wpList Tryz.prog ops Q (⟨some d,.build 248 #[(0,.tmp t1),(1,.tmp t2),(2,.tmp t3),(3,.tmp t4)],ty,pos,after,none⟩::rest) a9 w:=by
 refine wpList_plain rfl fun K hK=>?_
 unfold Oper.wp execOp
 simp only [List.map_toArray,List.map_cons,List.map_nil,h1,h2,h3,h4,Sem.run_bind,run_build146,Result.andThen_ok,Sem.run_pure]
 exact hK _ _ h
theorem wpl_store146 {w:World} {ops:Array Oper} {rest:List Oper} {a9:Act} {Q:Exit→Act→World→Prop} {x y:Nat} {ty:TypeId} {pos:String} {after:Array Edge} (b:Nat) (ht:w.there b 0 78) (hl:b<w.heap.size) (p:Pv) (a:Option Addr) (n cap:Nat) (ua:Option Addr) (un ucap:Nat) (mn:Int) (nm:ByteArray) (lv:Int) (oa:Option Addr) (on oc:Nat) (pa:Int) (la:Option Addr) (ln lc:Nat) (na:Option Addr) (nn nc:Nat) (qa:Option Addr) (qn qc:Nat) (dr:Nat→Bool)
  (hx:a9.eval (.tmp x)=.pointer (some ⟨b,0,none⟩)) (hy:a9.eval (.tmp y)=.agg (scL p a n cap ua un ucap mn nm lv oa on oc pa la ln lc na nn nc qa qn qc dr).toArray)
  (h:∀ w',ScS w' b ⟨p,a,n,cap,ua,un,ucap,mn,nm,lv,oa,on,oc,pa,la,ln,lc,na,nn,nc,qa,qn,qc,dr,zG,zG,none,0,0⟩→But b w w'→wpList Tryz.prog ops Q rest a9 w'):wpList Tryz.prog ops Q (⟨none,.store 248 (.tmp x) (.tmp y),ty,pos,after,none⟩::rest) a9 w:=by
 have hn:=scL_len p a n cap ua un ucap mn nm lv oa on oc pa la ln lc na nn nc qa qn qc dr
 refine wpList_store_mid rfl 248 (.tmp x) (.tmp y) rfl b 0 _ hx hy (by rw [List.size_toArray,hn];exact ht) (by rw [List.size_toArray,hn];exact size146) (all_oneCell_toArray (ones_sc p a n cap ua un ucap mn nm lv oa on oc pa la ln lc na nn nc qa qn qc dr)) ?_
 refine h _ (scs_new (World.rangeAt_setCells_same w b 0 _ (by rw [hn];exact ht)) (World.there_setCells ht b 0 _) (Nat.lt_of_lt_of_le hl (but_setCells b _ 0 w).size)) (but_setCells b _ 0 w)
theorem pC_ones (p:Pv):∀ v∈pC p,v.oneCell'=true:=by simp [pC,Value.oneCell']
theorem wpl_store64 {w:World} {ops:Array Oper} {rest:List Oper} {a9:Act} {Q:Exit→Act→World→Prop} {x y:Nat} {ty:TypeId} {pos:String} {after:Array Edge} (b:Nat) (ht:w.there b 0 21) (hl:b<w.heap.size) (p:Pv)
  (hx:a9.eval (.tmp x)=.pointer (some ⟨b,0,none⟩)) (hy:a9.eval (.tmp y)=.agg (pC p).toArray)
  (h:∀ w',w'.rangeAt b 0 (pC p)→b<w'.heap.size→But b w w'→wpList Tryz.prog ops Q rest a9 w'):wpList Tryz.prog ops Q (⟨none,.store 118 (.tmp x) (.tmp y),ty,pos,after,none⟩::rest) a9 w:=by
 refine wpList_store_mid rfl 118 (.tmp x) (.tmp y) rfl b 0 _ hx hy ht size64 (all_oneCell_toArray (pC_ones p)) ?_
 exact h _ (World.rangeAt_setCells_same w b 0 _ ht) (Nat.lt_of_lt_of_le hl (but_setCells b _ 0 w).size) (but_setCells b _ 0 w)
theorem rest_is {w:World} {p:Pv} {q:Pnt} (h:PntAt w p q):(restV p.op (zrs p.op p.tp.l p.tp.a p.tp.n p.tp.cap p.a.k p.a.n p.a.x.l p.a.x.a p.a.x.n p.a.x.cap p.b.k p.b.n p.b.x.l p.b.x.a p.b.x.n p.b.x.cap p.ra p.rn p.rc p.sg p.fp.l p.fp.a p.fp.n p.fp.cap p.mu p.fn p.st p.nx p.el p.ps) && decide (0≤p.ps))=(restB q && decide (0≤q.pos)):=by
 have e1:p.tp.n=q.to.p.length:=h.tp.row.len
 have e2:p.fp.n=q.fr.p.length:=h.fp.row.len
 have e3:p.a.x.n=q.a.pl.p.length:=h.a.p.row.len
 have e4:p.b.x.n=q.b.pl.p.length:=h.b.p.row.len
 have e5:p.rn=q.args.length:=h.ar.len
 have e6:decide (p.sg.size=0)=decide (q.sg.length=0):=by rw [← toList_nil,h.sg];cases q.sg <;> rfl
 rw [h.ps]
 congr 1
 unfold restV restB noOpd noPlc
 rw [h.op]
 show ((List.range 10).all fun i=>(fldO q.op).testBit i || zrs p.op p.tp.l p.tp.a p.tp.n p.tp.cap p.a.k p.a.n p.a.x.l p.a.x.a p.a.x.n p.a.x.cap p.b.k p.b.n p.b.x.l p.b.x.a p.b.x.n p.b.x.cap p.ra p.rn p.rc p.sg p.fp.l p.fp.a p.fp.n p.fp.cap p.mu p.fn p.st p.nx p.el p.ps i)=_
 simp only [show List.range 10=[0,1,2,3,4,5,6,7,8,9] from rfl,List.all_cons,List.all_nil,zrs,h.tl,e1,h.a.k,h.a.n,h.a.l,e3,h.b.k,h.b.n,h.b.l,e4,e5,e6,h.fl,e2,h.mu,h.fn,h.st,h.el,Bool.and_true,Bool.and_assoc]
def Pst (w0 V:World) (b:Nat) (s0:Scv) (x:Sc) (p:Pnt):Nat→Prop
 | 0=>ScS V b s0
 | 1=>ScS V b s0∧(restB p && decide (0≤p.pos))=true
 | 2=>ScS V b s0∧(restB p && decide (0≤p.pos))=true∧goesB x.np p=true
 | 3=>(∃ tw fw,ScS V b { s0 with tw:=tw,fw:=fw }∧WyAt w0 tw (x.toW p)∧WyAt w0 fw (x.frW p))∧(restB p && decide (0≤p.pos))=true∧goesB x.np p=true∧(x.toB p && x.frB p)=true
 | 4=>(∃ tw fw ta tn tc B os fs,ScS V b { s0 with tw:=tw,fw:=fw,ta:=ta,tn:=tn,tc:=tc }∧WyAt w0 tw (x.toW p)∧WyAt w0 fw (x.frW p)∧TLs w0 V B ta tn tc os fs∧x.opsT (opsOf p)=some os)∧(restB p && decide (0≤p.pos))=true∧goesB x.np p=true∧(x.toB p && x.frB p)=true
 | _=>x.ptB p=true
structure ScB (w0:World) (s0:Scv) (x:Sc) (p:Pnt):Prop where
 pt:PntAt w0 s0.pv p
 sx:SX w0 s0.a s0.n s0.cap s0.la s0.ln s0.lc x
 uf:UF w0 s0.ua s0.un x.hs
 dr:x.dr=s0.dr
 np:x.np=s0.qn
 tw:s0.tw=zG
 fw:s0.fw=zG
theorem at_c7 {w:World} {b:Nat} {nm:ByteArray} {lv:Int} {oa:Option Addr} {on oc:Nat} {pa:Int} {la:Option Addr} {ln lc:Nat} {na:Option Addr} {nn nc:Nat} {qa:Option Addr} {qn qc:Nat} (h:At w b (.cells #[.string nm,.int .i64 lv,.slice oa on oc,.int .i64 pa,.slice la ln lc,.slice na nn nc,.slice qa qn qc] 73 (0,0))):C7 w b 0 nm lv oa on oc pa la ln lc na nn nc qa qn qc:=by
 refine ⟨h.lt,fun j v hv=>?_⟩
 unfold At at h
 rw [cell_of_row _ _ _ _ _ _ h,Nat.zero_add]
 simpa using hv
theorem three_new (w:World) (o1 o2 o3:Obj):At (((w.alloc o1).alloc o2).alloc o3) w.heap.size o1∧At (((w.alloc o1).alloc o2).alloc o3) (w.heap.size+1) o2∧At (((w.alloc o1).alloc o2).alloc o3) (w.heap.size+1+1) o3:=by
 refine ⟨((At.new w o1).alloc o2).alloc o3,(at_snd w o1 o2).alloc o3,?_⟩
 have:=At.new ((w.alloc o1).alloc o2) o3
 simpa only [World.size_alloc] using this
theorem t5_ones (f:Fv):∀ u∈t5 f,u.oneCell'=true:=fun u hu=>by
 simp [t5] at hu
 rcases hu with rfl|rfl|rfl|rfl|rfl <;> rfl
theorem t5_new {W:World} {b:Nat} {f:Fv} (h:At W b f.o):∀ j u,(t5 f)[j]?=some u→W.cell? ((⟨b,0,none⟩:Addr).add j)=some u:=fun j u hu=>by
 unfold At at h
 match j,hu with
 | 0,hu=>simp [t5] at hu;subst hu;simp [Addr.add,World.cell?,h]
 | 1,hu=>simp [t5] at hu;subst hu;simp [Addr.add,World.cell?,h]
 | 2,hu=>simp [t5] at hu;subst hu;simp [Addr.add,World.cell?,h]
 | 3,hu=>simp [t5] at hu;subst hu;simp [Addr.add,World.cell?,h]
 | 4,hu=>simp [t5] at hu;subst hu;simp [Addr.add,World.cell?,h]
 | j+5,hu=>simp [t5] at hu
def zP:Pt:=⟨0,none,0,0⟩
def zO:Ov:=⟨0,0,zP⟩
def hv0:Pv:=⟨4,⟨2,none,0,0⟩,zO,zO,none,0,0,ByteArray.empty,⟨1,none,0,0⟩,true,0,0,1,0,0⟩
def hv1:Pv:=⟨1,⟨1,none,0,0⟩,⟨1,2,zP⟩,zO,none,0,0,ByteArray.empty,zP,false,0,0,2,0,0⟩
def hv2 (bq:Nat):Pv:=⟨1,⟨2,some ⟨bq,0,none⟩,1,1⟩,⟨1,3,zP⟩,zO,none,0,0,ByteArray.empty,zP,false,0,0,3,0,0⟩
def hv3:Pv:=⟨14,zP,zO,zO,none,0,0,ByteArray.empty,zP,false,0,0,0,0,0⟩
structure HandAt (W:World) (bu bl br bn bp bq:Nat):Prop where
 u:At W bu (.cells #[.string ByteArray.empty,.int .i64 0,.slice none 0 0,.int .i64 0,.slice (some ⟨bl,0,none⟩) 3 3,.slice (some ⟨bn,0,none⟩) 3 3,.slice (some ⟨bp,0,none⟩) 4 4] 73)
 l:At W bl (.cells #[.int .u8 1,.bool false,.int .i64 0,.int .i64 0,.slice none 0 0,.int .u8 1,.bool false,.int .i64 0,.int .i64 0,.slice none 0 0,.int .u8 4,.bool true,.int .i64 (-1),.int .i64 0,.slice (some ⟨br,0,none⟩) 1 1] 43)
 r:At W br (Fv.o ⟨1,false,0,0,none,0,0⟩)
 p:At W bp (.cells (pC hv0++pC hv1++pC (hv2 bq)++pC hv3).toArray 118)
 q:At W bq (.cells #[.int .i64 (-1)] 106)
theorem HandAt.bel {W W':World} {bu bl br bn bp bq:Nat} (h:HandAt W bu bl br bn bp bq) (k:Below W.heap.size W W'):HandAt W' bu bl br bn bp bq:=⟨h.u.below k,h.l.below k,h.r.below k,h.p.below k,h.q.below k⟩
theorem at_rng {W:World} {b:Nat} {l:List Value} {t:TypeId} (h:At W b (.cells l.toArray t)) (o:Nat) (m:List Value) (hm:∀ j v,m[j]?=some v→l[o+j]?=some v):W.rangeAt b o m:=fun j v hv=>by
 unfold At at h
 rw [cell_of_row _ _ _ _ _ _ h]
 simpa using hm j v hv
end Go.Proofs.YtmjenlogbkbgnaaGreatDoor
