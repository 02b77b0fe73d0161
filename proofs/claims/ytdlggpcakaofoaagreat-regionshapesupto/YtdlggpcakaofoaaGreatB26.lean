import Derived.Test.YtdlggpcakaofoaaGreatB25
namespace Go.Proofs.YtdlggpcakaofoaaGreat
open Go.RowKit Go.Shelf
set_option linter.unusedVariables false
set_option linter.unusedSimpArgs false
set_option maxRecDepth 100000
set_option maxHeartbeats 8000000
def pC (p:Pv):List Value:=[.int .u8 (p.op:Int),.int .i64 p.tp.l,.slice p.tp.a p.tp.n p.tp.cap,.int .u8 (p.a.k:Int),.int .i64 p.a.n,.int .i64 p.a.x.l,.slice p.a.x.a p.a.x.n p.a.x.cap,.int .u8 (p.b.k:Int),.int .i64 p.b.n,.int .i64 p.b.x.l,.slice p.b.x.a p.b.x.n p.b.x.cap,.slice p.ra p.rn p.rc,.string p.sg,.int .i64 p.fp.l,.slice p.fp.a p.fp.n p.fp.cap,.bool p.mu,.int .i64 p.fn,.int .i64 p.st,.int .i64 p.nx,.int .i64 p.el,.int .i64 p.ps]
structure PntAt (w:World) (v:Pv) (p:Pnt):Prop where
 op:v.op=p.op
 tp:PAt w v.tp p.to.p
 tl:v.tp.l=p.to.l
 a:OAt w v.a p.a
 b:OAt w v.b p.b
 ar:OL w v.ra v.rn v.rc p.args
 sg:v.sg.toList=p.sg
 fp:PAt w v.fp p.fr.p
 fl:v.fp.l=p.fr.l
 mu:v.mu=p.mu
 fn:v.fn=p.fn
 st:v.st=p.st
 nx:v.nx=p.nx
 el:v.el=p.el
 ps:v.ps=p.pos
structure PsL (w:World) (qa:Option Addr) (qn qc:Nat) (ps:List Pnt):Prop where
 len:qn=ps.length
 at_:∀ (i:Nat) (p:Pnt),ps[i]?=some p→∃ g off v,qa=some ⟨g,off,none⟩∧g<w.heap.size∧w.rangeAt g (off+i*21) (pC v)∧PntAt w v p
theorem PntAt.bel {w w':World} {v:Pv} {p:Pnt} (h:PntAt w v p) (hb:Below w.heap.size w w'):PntAt w' v p:=⟨h.op,h.tp.bel hb,h.tl,h.a.bel hb,h.b.bel hb,h.ar.bel hb,h.sg,h.fp.bel hb,h.fl,h.mu,h.fn,h.st,h.nx,h.el,h.ps⟩
theorem rng_bel {w w':World} {g o:Nat} {cs:List Value} (hg:g<w.heap.size) (h:w.rangeAt g o cs) (hb:Below w.heap.size w w'):w'.rangeAt g o cs:=fun j v hv=>(cells_bel hg hb _).trans (h j v hv)
theorem PsL.bel {w w':World} {qa:Option Addr} {qn qc:Nat} {ps:List Pnt} (h:PsL w qa qn qc ps) (hb:Below w.heap.size w w'):PsL w' qa qn qc ps :=
 ⟨h.len,fun i p hi=>by
  obtain ⟨g,off,v,e,hg,hr,hp⟩:=h.at_ i p hi
  exact ⟨g,off,v,e,Nat.lt_of_lt_of_le hg hb.size,rng_bel hg hr hb,hp.bel hb⟩⟩
theorem rng_app {w:World} {b o:Nat} {l m:List Value} (h:w.rangeAt b o (l++m)):w.rangeAt b o l∧w.rangeAt b (o+l.length) m :=
 ⟨fun j v hv=>h j v (by rw [List.getElem?_append_left (List.getElem?_eq_some_iff.1 hv).1];exact hv),fun j v hv=>by
  have:=h (l.length+j) v (by rw [List.getElem?_append_right (by omega),Nat.add_sub_cancel_left];exact hv)
  rw [Nat.add_assoc]
  exact this⟩
def scL (p:Pv) (a:Option Addr) (n cap:Nat) (ua:Option Addr) (un ucap:Nat) (mn:Int) (nm:ByteArray) (lv:Int) (oa:Option Addr) (on oc:Nat) (pa:Int) (la:Option Addr) (ln lc:Nat) (na:Option Addr) (nn nc:Nat) (qa:Option Addr) (qn qc:Nat) (dr:Nat→Bool):List Value :=
 pC p++([.slice a n cap,.slice ua un ucap,.int .i64 mn]++([.string nm,.int .i64 lv,.slice oa on oc,.int .i64 pa,.slice la ln lc,.slice na nn nc,.slice qa qn qc]++((List.range 32).map (bV dr)++(g7 zG++(g7 zG++[.slice none 0 0])))))
theorem size146:(Tryz.prog.info? 164).map (·.size)=some 78:=by kernel_rfl
theorem scs_new {w:World} {b:Nat} {p:Pv} {a:Option Addr} {n cap:Nat} {ua:Option Addr} {un ucap:Nat} {mn:Int} {nm:ByteArray} {lv:Int} {oa:Option Addr} {on oc:Nat} {pa:Int} {la:Option Addr} {ln lc:Nat} {na:Option Addr} {nn nc:Nat} {qa:Option Addr} {qn qc:Nat} {dr:Nat→Bool}
  (h:w.rangeAt b 0 (scL p a n cap ua un ucap mn nm lv oa on oc pa la ln lc na nn nc qa qn qc dr)) (ht:w.there b 0 78) (hl:b<w.heap.size):ScS w b ⟨p,a,n,cap,ua,un,ucap,mn,nm,lv,oa,on,oc,pa,la,ln,lc,na,nn,nc,qa,qn,qc,dr,zG,zG,none,0,0⟩:=by
 unfold scL at h
 obtain ⟨h1,h⟩:=rng_app h
 obtain ⟨h2,h⟩:=rng_app h
 obtain ⟨h3,h⟩:=rng_app h
 obtain ⟨h4,h⟩:=rng_app h
 obtain ⟨h5,h⟩:=rng_app h
 obtain ⟨h6,h7⟩:=rng_app h
 have g2:w.rangeAt b 21 [.slice a n cap,.slice ua un ucap,.int .i64 mn]:=h2
 have g3:w.rangeAt b 24 [.string nm,.int .i64 lv,.slice oa on oc,.int .i64 pa,.slice la ln lc,.slice na nn nc,.slice qa qn qc]:=h3
 have g4:w.rangeAt b 31 ((List.range 32).map (bV dr)):=h4
 rw [List.length_map,List.length_range] at h5 h6 h7
 have g5:w.rangeAt b 63 (g7 zG):=h5
 have g6:w.rangeAt b 70 (g7 zG):=h6
 have g7':w.rangeAt b 77 [.slice none 0 0]:=h7
 obtain ⟨r0,r1,r2⟩:=rng_c5 g5 hl
 obtain ⟨s0,s1,s2⟩:=rng_c5 g6 hl
 have k1:∀ (j:Nat) (v:Value),(pC p)[j]?=some v→w.cell? ⟨b,j,none⟩=some v:=fun j v hv=>by have:=h1 j v hv;rwa [Nat.zero_add] at this
 exact { th:=ht,lt:=hl,pt:=⟨hl,k1 0 _ rfl,k1 1 _ rfl,k1 2 _ rfl,k1 3 _ rfl,k1 4 _ rfl,k1 5 _ rfl,k1 6 _ rfl,k1 7 _ rfl,k1 8 _ rfl,k1 9 _ rfl,k1 10 _ rfl,k1 11 _ rfl,k1 12 _ rfl,k1 13 _ rfl,k1 14 _ rfl,k1 15 _ rfl,k1 16 _ rfl,k1 17 _ rfl,k1 18 _ rfl,k1 19 _ rfl,k1 20 _ rfl⟩,c21:=g2 0 _ rfl,c22:=g2 1 _ rfl,c23:=g2 2 _ rfl,c24:=g3 0 _ rfl,c25:=g3 1 _ rfl,c26:=g3 2 _ rfl,c27:=g3 3 _ rfl,c28:=g3 4 _ rfl,c29:=g3 5 _ rfl,c30:=g3 6 _ rfl,dr:=fun i hi=>g4 i _ (by rw [List.getElem?_map,List.getElem?_range hi];rfl),tw:=r0,t68:=r1,t69:=r2,fw:=s0,f75:=s1,f76:=s2,c77:=g7' 0 _ rfl }
theorem ones_sc (p:Pv) (a:Option Addr) (n cap:Nat) (ua:Option Addr) (un ucap:Nat) (mn:Int) (nm:ByteArray) (lv:Int) (oa:Option Addr) (on oc:Nat) (pa:Int) (la:Option Addr) (ln lc:Nat) (na:Option Addr) (nn nc:Nat) (qa:Option Addr) (qn qc:Nat) (dr:Nat→Bool):∀ v∈scL p a n cap ua un ucap mn nm lv oa on oc pa la ln lc na nn nc qa qn qc dr,v.oneCell'=true:=by
 have h1:∀ v∈pC p,v.oneCell'=true:=by simp [pC,Value.oneCell']
 have h4:∀ v∈(List.range 32).map (bV dr),v.oneCell'=true:=fun v hv=>by
  rw [List.mem_map] at hv
  obtain ⟨i,-,rfl⟩:=hv
  rfl
 intro v hv
 unfold scL at hv
 simp only [List.mem_append] at hv
 rcases hv with hv|hv|hv|hv|hv|hv|hv
 ·exact h1 v hv
 ·simp at hv;rcases hv with rfl|rfl|rfl <;> rfl
 ·simp at hv;rcases hv with rfl|rfl|rfl|rfl|rfl|rfl|rfl <;> rfl
 ·exact h4 v hv
 ·exact g7_ones zG v hv
 ·exact g7_ones zG v hv
 ·simp at hv;subst hv;rfl
theorem scL_len (p:Pv) (a:Option Addr) (n cap:Nat) (ua:Option Addr) (un ucap:Nat) (mn:Int) (nm:ByteArray) (lv:Int) (oa:Option Addr) (on oc:Nat) (pa:Int) (la:Option Addr) (ln lc:Nat) (na:Option Addr) (nn nc:Nat) (qa:Option Addr) (qn qc:Nat) (dr:Nat→Bool):(scL p a n cap ua un ucap mn nm lv oa on oc pa la ln lc na nn nc qa qn qc dr).length=78:=by
 simp [scL,pC,g7]
theorem run_build146 (p:Pv) (a:Option Addr) (n cap:Nat) (ua:Option Addr) (un ucap:Nat) (mn:Int) (nm:ByteArray) (lv:Int) (oa:Option Addr) (on oc:Nat) (pa:Int) (la:Option Addr) (ln lc:Nat) (na:Option Addr) (nn nc:Nat) (qa:Option Addr) (qn qc:Nat) (dr:Nat→Bool) (w:World) :
  (Instr.build 164 #[(0,.agg (pC p).toArray),(1,.agg #[.slice a n cap,.slice ua un ucap,.int .i64 mn]),(2,.agg #[.string nm,.int .i64 lv,.slice oa on oc,.int .i64 pa,.slice la ln lc,.slice na nn nc,.slice qa qn qc]),(3,.agg (arr (bV dr)))]).run Tryz.prog w=.ok (.agg (scL p a n cap ua un ucap mn nm lv oa on oc pa la ln lc na nn nc qa qn qc dr).toArray) w:=by kernel_rfl
theorem wpl_build146 {w:World} {ops:Array Oper} {rest:List Oper} {a9:Act} {Q:Exit→Act→World→Prop} {t1 t2 t3 t4 d:Nat} {ty:TypeId} {pos:String} {after:Array Edge} (p:Pv) (a:Option Addr) (n cap:Nat) (ua:Option Addr) (un ucap:Nat) (mn:Int) (nm:ByteArray) (lv:Int) (oa:Option Addr) (on oc:Nat) (pa:Int) (la:Option Addr) (ln lc:Nat) (na:Option Addr) (nn nc:Nat) (qa:Option Addr) (qn qc:Nat) (dr:Nat→Bool)
  (h1:a9.eval (.tmp t1)=.agg (pC p).toArray) (h2:a9.eval (.tmp t2)=.agg #[.slice a n cap,.slice ua un ucap,.int .i64 mn]) (h3:a9.eval (.tmp t3)=.agg #[.string nm,.int .i64 lv,.slice oa on oc,.int .i64 pa,.slice la ln lc,.slice na nn nc,.slice qa qn qc]) (h4:a9.eval (.tmp t4)=.agg (arr (bV dr)))
  (h:wpList Tryz.prog ops Q rest (a9.put (some d) (.agg (scL p a n cap ua un ucap mn nm lv oa on oc pa la ln lc na nn nc qa qn qc dr).toArray)) w):wpList Tryz.prog ops Q (⟨some d,.build 164 #[(0,.tmp t1),(1,.tmp t2),(2,.tmp t3),(3,.tmp t4)],ty,pos,after,none⟩::rest) a9 w:=by
 refine wpList_plain rfl fun K hK=>?_
 unfold Oper.wp execOp
 simp only [List.map_toArray,List.map_cons,List.map_nil,h1,h2,h3,h4,Sem.run_bind,run_build146,Result.andThen_ok,Sem.run_pure]
 exact hK _ _ h
theorem wpl_store146 {w:World} {ops:Array Oper} {rest:List Oper} {a9:Act} {Q:Exit→Act→World→Prop} {x y:Nat} {ty:TypeId} {pos:String} {after:Array Edge} (b:Nat) (ht:w.there b 0 78) (hl:b<w.heap.size) (p:Pv) (a:Option Addr) (n cap:Nat) (ua:Option Addr) (un ucap:Nat) (mn:Int) (nm:ByteArray) (lv:Int) (oa:Option Addr) (on oc:Nat) (pa:Int) (la:Option Addr) (ln lc:Nat) (na:Option Addr) (nn nc:Nat) (qa:Option Addr) (qn qc:Nat) (dr:Nat→Bool)
  (hx:a9.eval (.tmp x)=.pointer (some ⟨b,0,none⟩)) (hy:a9.eval (.tmp y)=.agg (scL p a n cap ua un ucap mn nm lv oa on oc pa la ln lc na nn nc qa qn qc dr).toArray)
  (h:∀ w',ScS w' b ⟨p,a,n,cap,ua,un,ucap,mn,nm,lv,oa,on,oc,pa,la,ln,lc,na,nn,nc,qa,qn,qc,dr,zG,zG,none,0,0⟩→But b w w'→wpList Tryz.prog ops Q rest a9 w'):wpList Tryz.prog ops Q (⟨none,.store 164 (.tmp x) (.tmp y),ty,pos,after,none⟩::rest) a9 w:=by
 have hn:=scL_len p a n cap ua un ucap mn nm lv oa on oc pa la ln lc na nn nc qa qn qc dr
 refine wpList_store_mid rfl 164 (.tmp x) (.tmp y) rfl b 0 _ hx hy (by rw [List.size_toArray,hn];exact ht) (by rw [List.size_toArray,hn];exact size146) (all_oneCell_toArray (ones_sc p a n cap ua un ucap mn nm lv oa on oc pa la ln lc na nn nc qa qn qc dr)) ?_
 refine h _ (scs_new (World.rangeAt_setCells_same w b 0 _ (by rw [hn];exact ht)) (World.there_setCells ht b 0 _) (Nat.lt_of_lt_of_le hl (but_setCells b _ 0 w).size)) (but_setCells b _ 0 w)
theorem pC_ones (p:Pv):∀ v∈pC p,v.oneCell'=true:=by simp [pC,Value.oneCell']
theorem wpl_store64 {w:World} {ops:Array Oper} {rest:List Oper} {a9:Act} {Q:Exit→Act→World→Prop} {x y:Nat} {ty:TypeId} {pos:String} {after:Array Edge} (b:Nat) (ht:w.there b 0 21) (hl:b<w.heap.size) (p:Pv)
  (hx:a9.eval (.tmp x)=.pointer (some ⟨b,0,none⟩)) (hy:a9.eval (.tmp y)=.agg (pC p).toArray)
  (h:∀ w',w'.rangeAt b 0 (pC p)→b<w'.heap.size→But b w w'→wpList Tryz.prog ops Q rest a9 w'):wpList Tryz.prog ops Q (⟨none,.store 65 (.tmp x) (.tmp y),ty,pos,after,none⟩::rest) a9 w:=by
 refine wpList_store_mid rfl 65 (.tmp x) (.tmp y) rfl b 0 _ hx hy ht size64 (all_oneCell_toArray (pC_ones p)) ?_
 exact h _ (World.rangeAt_setCells_same w b 0 _ ht) (Nat.lt_of_lt_of_le hl (but_setCells b _ 0 w).size) (but_setCells b _ 0 w)
theorem rest_is {w:World} {p:Pv} {q:Pnt} (h:PntAt w p q):(restV p.op (zrs p.op p.tp.l p.tp.a p.tp.n p.tp.cap p.a.k p.a.n p.a.x.l p.a.x.a p.a.x.n p.a.x.cap p.b.k p.b.n p.b.x.l p.b.x.a p.b.x.n p.b.x.cap p.ra p.rn p.rc p.sg p.fp.l p.fp.a p.fp.n p.fp.cap p.mu p.fn p.st p.nx p.el p.ps) && decide (0≤p.ps))=(restB q && decide (0≤q.pos)):=by
 have e1:p.tp.n=q.to.p.length:=h.tp.row.len
 have e2:p.fp.n=q.fr.p.length:=h.fp.row.len
 have e3:p.a.x.n=q.a.pl.p.length:=h.a.p.row.len
 have e4:p.b.x.n=q.b.pl.p.length:=h.b.p.row.len
 have e5:p.rn=q.args.length:=h.ar.len
 have e6:decide (p.sg.size=0)=decide (q.sg.length=0):=by rw [← toList_nil,h.sg];cases q.sg <;> rfl
 rw [h.ps]
 congr 1
 unfold restV restB noOpd noPlc
 rw [h.op]
 show ((List.range 10).all fun i=>(fldO q.op).testBit i || zrs p.op p.tp.l p.tp.a p.tp.n p.tp.cap p.a.k p.a.n p.a.x.l p.a.x.a p.a.x.n p.a.x.cap p.b.k p.b.n p.b.x.l p.b.x.a p.b.x.n p.b.x.cap p.ra p.rn p.rc p.sg p.fp.l p.fp.a p.fp.n p.fp.cap p.mu p.fn p.st p.nx p.el p.ps i)=_
 simp only [show List.range 10=[0,1,2,3,4,5,6,7,8,9] from rfl,List.all_cons,List.all_nil,zrs,h.tl,e1,h.a.k,h.a.n,h.a.l,e3,h.b.k,h.b.n,h.b.l,e4,e5,e6,h.fl,e2,h.mu,h.fn,h.st,h.el,Bool.and_true,Bool.and_assoc]
def Pst (w0 V:World) (b:Nat) (s0:Scv) (x:Sc) (p:Pnt):Nat→Prop
 | 0=>ScS V b s0
 | 1=>ScS V b s0∧(restB p && decide (0≤p.pos))=true
 | 2=>ScS V b s0∧(restB p && decide (0≤p.pos))=true∧goesB x.np p=true
 | 3=>(∃ tw fw,ScS V b { s0 with tw:=tw,fw:=fw }∧WyAt w0 tw (x.toW p)∧WyAt w0 fw (x.frW p))∧(restB p && decide (0≤p.pos))=true∧goesB x.np p=true∧(x.toB p && x.frB p)=true
 | 4=>(∃ tw fw ta tn tc B os fs,ScS V b { s0 with tw:=tw,fw:=fw,ta:=ta,tn:=tn,tc:=tc }∧WyAt w0 tw (x.toW p)∧WyAt w0 fw (x.frW p)∧TLs w0 V B ta tn tc os fs∧x.opsT (opsOf p)=some os)∧(restB p && decide (0≤p.pos))=true∧goesB x.np p=true∧(x.toB p && x.frB p)=true
 | _=>x.ptB p=true
structure ScB (w0:World) (s0:Scv) (x:Sc) (p:Pnt):Prop where
 pt:PntAt w0 s0.pv p
 sx:SX w0 s0.a s0.n s0.cap s0.la s0.ln s0.lc x
 uf:UF w0 s0.ua s0.un x.hs
 dr:x.dr=s0.dr
 np:x.np=s0.qn
 tw:s0.tw=zG
 fw:s0.fw=zG
def loansN (ps:List Pnt):Nat:=(ps.filter fun p=>decide (p.op=4)).length
theorem loansN_next {ps:List Pnt} {i:Nat} {p:Pnt} (h:ps[i]?=some p):loansN (ps.take (i+1))=loansN (ps.take i)+(if p.op=4 then 1 else 0):=by
 unfold loansN
 rw [List.take_add_one,h]
 simp only [Option.toList_some,List.filter_append,List.length_append]
 congr 1
 by_cases e:p.op=4 <;> simp [e]
theorem loans_any (nm:ByteArray) (lv:Int) (oa:Option Addr) (on oc:Nat) (pa:Int) (la:Option Addr) (ln lc:Nat) (na:Option Addr) (nn nc:Nat) (qa:Option Addr) (qn qc:Nat) (sa:Option Addr) (sn sc:Nat) (im:Bool) (w:World)
  (ps:List Pnt) (hP:PsL w qa qn qc ps) (hqn:qn≤1024) (r:Bool) (hr:r=decide (loansN ps≤256)) :
  Calls Tryz.prog 104 #[hV nm lv oa on oc pa la ln lc na nn nc qa qn qc sa sn sc im] w fun e w'=>e=.returned (.bool r)∧Below w.heap.size w w':=by
 have HH:Hid (At (w.alloc (hO nm lv oa on oc pa la ln lc na nn nc qa qn qc sa sn sc im)) w.heap.size (hO nm lv oa on oc pa la ln lc na nn nc qa qn qc sa sn sc im)):=At.new _ _
 have HPS:=jH hP
 have HR:=jH hr
 have q0:(qn:Int)≤1024:=by omega
 obtain ⟨V0,hV0⟩:∃ V0,V0=w.alloc (hO nm lv oa on oc pa la ln lc na nn nc qa qn qc sa sn sc im):=⟨_,rfl⟩
 have HB0:Hid (Below w.heap.size w V0):=jH (by rw [hV0];exact belA bR)
 rw [← hV0] at HH
 clear hP hr hqn
 obtain ⟨d0,d1,d2,d3,d4,d5,d6,d7,d8⟩:=HH.out.hd
 go_enter Tryz.func104,Tryz.ntmps104
 go_upto_region 1 with fail
 rw [← hV0]
 clear hV0
 go_wp2_with fail
 clear d0 d1 d2 d3 d4 d5 d6 d7 d8 HH
 go_loopw [3,10] (fun v3 v V=>∃ i:Nat,i≤qn∧v3=.int .i64 (loansN (ps.take i):Int)∧v=.int .i64 (i:Int)∧Below w.heap.size w V) (fun _ v _=>qn - (intOf v).toNat)
 case atStart=>exact ⟨0,Nat.zero_le _,rfl,rfl,HB0.out⟩
 case round =>
  clear HB0
  obtain ⟨i,hi,rfl,rfl,hB⟩:=hrel
  have HB:=jH hB
  clear hB
  by_cases hlt:i<qn
  ·obtain ⟨p,hp⟩:∃ p,ps[i]?=some p:=⟨_,List.getElem?_eq_getElem (by rw [← HPS.out.len];exact hlt)⟩
   obtain ⟨pg,po,pv,ep,hpg,hrng,hpnt⟩:=HPS.out.at_ i p hp
   have ep2:qa=some ⟨pg,po,none⟩:=ep
   subst ep2
   have HRNG:Hid (wr.rangeAt pg (po+i*21) (pC pv)):=jH (rng_bel hpg hrng HB.out)
   obtain ⟨m,hm⟩:∃ m,m=loansN (ps.take i):=⟨_,rfl⟩
   have HM:=jH hm
   have HNX:=jH (loansN_next hp)
   have m0:(m:Int)≤1024:=by
    have:m≤i:=by rw [hm];unfold loansN;exact Nat.le_trans (List.length_filter_le _ _) (by simp;omega)
    omega
   obtain ⟨op,hop⟩:∃ op,op=pv.op:=⟨_,rfl⟩
   have HOP:Hid (op=p.op):=jH (by rw [hop];exact hpnt.op)
   have HOP2:=jH hop
   rw [← hm]
   have i0:(0:Int)≤(i:Int):=by omega
   have i1:(i:Int)<(qn:Int):=by omega
   have HLT:=jH hlt
   clear hp hrng hpnt ep hlt hi hpg hm hop
   by_cases h4:op=4
   ·have o1:((op:Int) == 4)=true:=by rw [h4];rfl
    have HE:Hid (op=4):=h4
    clear h4
    go_wp2_with (first
     | ((with_reducible show wpList _ _ _ (Oper.mk (some _) (Op.load 65 _) _ _ _ none::_) _ _);refine wpl_load64 pg (po+i*21) (pC pv) rfl rfl HRNG.out Tryz.underlying65 rfl ?_)
     | ((with_reducible show wpList _ _ _ (Oper.mk none (Op.store 65 _ _) _ _ _ none::_) _ _);refine wpl_store64 wr.heap.size (there_new wr _ _ 21 rfl) (by simp) pv rfl rfl ?_;intro w3 hr3 hl3 hb3;have c0:w3.cell? ⟨wr.heap.size,0,none⟩=some (.int .u8 (op:Int)):=(by rw [HOP2.out];exact hr3 0 _ rfl);have HB3:=jH (belBut (belA HB.out) hb3 HB.out.size (by have:=HB.out.size;simp;omega));clear hr3 hb3))
    refine ⟨⟨i+1,HLT.out,?_,rfl,HB3.out⟩,?_⟩
    ·rw [HNX.out,if_pos (by rw [← HOP.out];exact HE.out),← HM.out];rfl
    ·show qn - ((i:Int)+1).toNat<qn - (i:Int).toNat
     have:=HLT.out
     omega
   ·have o1:((op:Int) == 4)=false:=by simp;omega
    have HE:Hid (¬ op=4):=h4
    clear h4
    go_wp2_with (first
     | ((with_reducible show wpList _ _ _ (Oper.mk (some _) (Op.load 65 _) _ _ _ none::_) _ _);refine wpl_load64 pg (po+i*21) (pC pv) rfl rfl HRNG.out Tryz.underlying65 rfl ?_)
     | ((with_reducible show wpList _ _ _ (Oper.mk none (Op.store 65 _ _) _ _ _ none::_) _ _);refine wpl_store64 wr.heap.size (there_new wr _ _ 21 rfl) (by simp) pv rfl rfl ?_;intro w3 hr3 hl3 hb3;have c0:w3.cell? ⟨wr.heap.size,0,none⟩=some (.int .u8 (op:Int)):=(by rw [HOP2.out];exact hr3 0 _ rfl);have HB3:=jH (belBut (belA HB.out) hb3 HB.out.size (by have:=HB.out.size;simp;omega));clear hr3 hb3))
    refine ⟨⟨i+1,HLT.out,?_,rfl,HB3.out⟩,?_⟩
    ·rw [HNX.out,if_neg (by rw [← HOP.out];exact HE.out),← HM.out];rfl
    ·show qn - ((i:Int)+1).toNat<qn - (i:Int).toNat
     have:=HLT.out
     omega
  ·obtain rfl:i=qn:=by omega
   have lt:¬ (i:Int)<(i:Int):=by omega
   clear hlt hi
   obtain ⟨m,hm⟩:∃ m,m=loansN (ps.take i):=⟨_,rfl⟩
   have HM:=jH hm
   rw [← hm]
   clear hm
   go_wp2_with fail
   go_ret
   refine ⟨?_,HB.out⟩
   rw [HR.out]
   have e:m=loansN ps:=by rw [HM.out,HPS.out.len,List.take_length]
   rw [← e]
   show Ending.returned (.bool (decide ((m:Int)≤256)))=_
   congr 2
   rw [Bool.eq_iff_iff]
   simp
   omega
end Go.Proofs.YtdlggpcakaofoaaGreat
