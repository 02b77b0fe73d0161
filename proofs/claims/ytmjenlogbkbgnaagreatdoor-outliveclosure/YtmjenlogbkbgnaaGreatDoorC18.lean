import Derived.Test.YtmjenlogbkbgnaaGreatDoorC17
import Derived.Scope
namespace Go.Proofs.YtmjenlogbkbgnaaGreatDoor
open Go.RowKit Go.Shelf
set_option linter.unusedVariables false
set_option linter.unusedSimpArgs false
set_option maxRecDepth 100000
set_option maxHeartbeats 16000000
theorem map_ty_inj:∀ {l m:List Ch},l.map Ch.ty=m.map Ch.ty→l=m
 | [],[],_=>rfl
 | [],_::_,h=>by simp at h
 | _::_,[],h=>by simp at h
 | c::l,d::m,h=>by
  simp only [List.map_cons,List.cons.injEq] at h
  rw [Ch.ty_inj h.1,map_ty_inj h.2]
structure HdOk (n:Nat) (isM:Bool) (g:Grp) (cl:List Ch):Prop where
 cnt:cntB g.lv g.pa g.lo.length g.ns.length g.pt.length=true
 lo:g.lo=cl.map Ch.ty
 ok:∀ c∈cl,c.ok n∧Ok c
 reg:∀ (k:Nat) (c:Ch),cl[k]?=some c→∀ q∈c.regs,regP g.lv g.pa k q
 out:outlB g.lv g.ou (cl.take (g.pa.toNat+1))=true
 loan:loansN g.pt≤256
 main:isM=true→g.lv=0∧g.pa=0∧∀ c,cl[0]?=some c→kindC c=1
def HdP (n:Nat) (isM:Bool) (g:Grp):Prop:=∃ cl,HdOk n isM g cl
structure GrC (w:World) (nm:ByteArray) (lv:Int) (oa:Option Addr) (on oc:Nat) (pa:Int) (la:Option Addr) (ln lc:Nat) (na:Option Addr) (nn nc:Nat) (qa:Option Addr) (qn qc:Nat) (g:Grp):Prop where
 lv:lv=g.lv
 pa:pa=g.pa
 ou:OuAt w oa on oc g.ou
 lo:LcAt w la ln lc g.lo
 lc:ln≤lc
 ns:nn=g.ns.length
 pt:PsL w qa qn qc g.pt
def Hst (n:Nat) (isM:Bool) (g:Grp):Nat→Prop
 | 0=>True
 | 1=>cntB g.lv g.pa g.lo.length g.ns.length g.pt.length=true
 | 2=>cntB g.lv g.pa g.lo.length g.ns.length g.pt.length=true∧∃ cl:List Ch,g.lo=cl.map Ch.ty∧(∀ c∈cl,c.ok n∧Ok c)∧∀ (k:Nat) (c:Ch),cl[k]?=some c→∀ q∈c.regs,regP g.lv g.pa k q
 | 3=>cntB g.lv g.pa g.lo.length g.ns.length g.pt.length=true∧∃ cl:List Ch,g.lo=cl.map Ch.ty∧(∀ c∈cl,c.ok n∧Ok c)∧(∀ (k:Nat) (c:Ch),cl[k]?=some c→∀ q∈c.regs,regP g.lv g.pa k q)∧outlB g.lv g.ou (cl.take (g.pa.toNat+1))=true
 | 4=>cntB g.lv g.pa g.lo.length g.ns.length g.pt.length=true∧∃ cl:List Ch,g.lo=cl.map Ch.ty∧(∀ c∈cl,c.ok n∧Ok c)∧(∀ (k:Nat) (c:Ch),cl[k]?=some c→∀ q∈c.regs,regP g.lv g.pa k q)∧outlB g.lv g.ou (cl.take (g.pa.toNat+1))=true∧loansN g.pt≤256
 | _=>HdP n isM g
theorem cnt_parts {lv pa:Int} {ln nn qn:Nat} (h:cntB lv pa ln nn qn=true):0≤lv∧lv≤8∧0≤pa∧pa≤8∧pa<(ln:Int)∧ln≤512∧nn=ln∧1≤qn∧qn≤1024:=by
 unfold cntB at h
 simp only [Bool.and_eq_true,decide_eq_true_iff] at h
 omega
theorem head_step {w W:World} (hW:Below w.heap.size w W) {sa:Option Addr} {sn sc:Nat} {ss:List (List Ty)} (hSt:StAt w sa sn sc ss) {b1 b2 b3:Nat→Bool} (hb:Flt ss b1 b2 b3) (hso:(stRes sn b1 b2 b3).2=0)
  {nm:ByteArray} {lv:Int} {oa:Option Addr} {on oc:Nat} {pa:Int} {la:Option Addr} {ln lc:Nat} {na:Option Addr} {nn nc:Nat} {qa:Option Addr} {qn qc:Nat} {g:Grp} (hG:GrC w nm lv oa on oc pa la ln lc na nn nc qa qn qc g) (im:Bool) (k:Nat) (hk:k<5) (h:Hst sn im g k) :
  ∃ r:Bool,(Calls Tryz.prog (168+k) #[hV nm lv oa on oc pa la ln lc na nn nc qa qn qc sa sn sc im] W fun e w'=>e=.returned (.bool r)∧Below W.heap.size W w')∧(r=true→Hst sn im g (k+1))∧(r=false→¬ HdP sn im g):=by
 have l1:ln=g.lo.length:=hG.lo.len
 have l2:qn=g.pt.length:=hG.pt.len
 have l3:=hG.ns
 have uniq:∀ cl cl':List Ch,g.lo=cl.map Ch.ty→g.lo=cl'.map Ch.ty→cl'=cl:=fun cl cl' h1 h2=>map_ty_inj (by rw [← h1,← h2])
 match k,hk,h with
 | 0,_,_ =>
  refine ⟨cntB g.lv g.pa g.lo.length g.ns.length g.pt.length,counts_any nm lv oa on oc pa la ln lc na nn nc qa qn qc sa sn sc im W _ (by rw [hG.lv,hG.pa,l1,l2,l3]),fun e=>e,fun e=>?_⟩
  rintro ⟨cl,h⟩
  rw [h.cnt] at e
  cases e
 | 1,_,h =>
  have hcnt:cntB g.lv g.pa g.lo.length g.ns.length g.pt.length=true:=h
  obtain ⟨c1,c2,c3,c4,c5,c6,c7,c8,c9⟩:=cnt_parts hcnt
  obtain ⟨fc,cl,hC,hI⟩:=cx_of hSt hG.lo hb
  obtain ⟨ok,hok⟩:∃ ok,ok=mayL sn (decide ((stRes sn b1 b2 b3).2=0)) g.lo:=⟨_,rfl⟩
  rw [← hok] at hC hI
  have hcl:ok=true→∀ c∈cl,Ok c:=fun e c hc=>⟨Ch.ok_mono (by have:=(hC.sf e).le;omega) c ((hC.lf e).ok c hc),(hI e).2.1 c hc⟩
  have hCW:Cx W sa la sn sc ln lc ok fc cl:=⟨fun V hV=>hC.all V (jB hW hV),fun e=>(hC.sf e).bel hW,fun e=>(hC.lf e).bel hW⟩
  obtain ⟨r,hr⟩:∃ r:Bool,r=true↔ok=true∧∀ (n:Nat) (c:Ch),cl[n]?=some c→∀ q∈c.regs,regP lv pa n q:=by
   by_cases hp:ok=true∧∀ (n:Nat) (c:Ch),cl[n]?=some c→∀ q∈c.regs,regP lv pa n q
   ·exact ⟨true,⟨fun _=>hp,fun _=>rfl⟩⟩
   ·exact ⟨false,⟨(fun h=>by cases h),fun h=>absurd h hp⟩⟩
  refine ⟨r,locals_any nm lv oa on oc pa la ln lc na nn nc qa qn qc sa sn sc im W hCW hcl (by omega) (by omega) r hr,fun e=>?_,fun e=>?_⟩
  ·obtain ⟨h1,h2⟩:=hr.1 e
   refine ⟨hcnt,cl,(hI h1).1,fun c hc=>⟨(hC.lf h1).ok c hc,hcl h1 c hc⟩,?_⟩
   rw [← hG.lv,← hG.pa]
   exact h2
  ·rintro ⟨cl',h⟩
   have h1:ok=true:=by
    rw [hok,mayL_iff]
    refine ⟨decide_eq_true hso,fun t ht=>?_⟩
    rw [h.lo,List.mem_map] at ht
    obtain ⟨c,hc,rfl⟩:=ht
    exact ch_mayB (h.ok c hc).1 (h.ok c hc).2.deep
   have h2:=uniq cl cl' (hI h1).1 h.lo
   subst h2
   have:r=true:=hr.2 ⟨h1,by rw [hG.lv,hG.pa];exact h.reg⟩
   rw [e] at this
   cases this
 | 2,_,h =>
  obtain ⟨hcnt,cl,h1,h2,h3⟩:=h
  obtain ⟨c1,c2,c3,c4,c5,c6,c7,c8,c9⟩:=cnt_parts hcnt
  refine ⟨outlB g.lv g.ou (cl.take (g.pa.toNat+1)),outlives_any nm lv oa on oc pa la ln lc na nn nc qa qn qc sa sn sc im W g.ou (hG.ou.bel hW) cl (by rw [← h1];exact hG.lo.bel hW) (fun c hc=>(h2 c hc).2) (by rw [hG.lv];exact c2) (by rw [hG.pa];omega) (by omega) hG.lc (by rw [hG.lv,hG.pa];exact h3) _ (by rw [hG.lv,hG.pa]),fun e=>⟨hcnt,cl,h1,h2,h3,e⟩,fun e=>?_⟩
  rintro ⟨cl',h⟩
  have:=uniq cl cl' h1 h.lo
  subst this
  rw [h.out] at e
  cases e
 | 3,_,h =>
  obtain ⟨hcnt,cl,h1,h2,h3,h4⟩:=h
  obtain ⟨c1,c2,c3,c4,c5,c6,c7,c8,c9⟩:=cnt_parts hcnt
  refine ⟨decide (loansN g.pt≤256),loans_any nm lv oa on oc pa la ln lc na nn nc qa qn qc sa sn sc im W g.pt (hG.pt.bel hW) (by omega) _ rfl,fun e=>⟨hcnt,cl,h1,h2,h3,h4,by simpa using e⟩,fun e=>?_⟩
  rintro ⟨cl',h⟩
  rw [decide_eq_true h.loan] at e
  cases e
 | 4,_,h =>
  obtain ⟨hcnt,cl,h1,h2,h3,h4,h5⟩:=h
  obtain ⟨c1,c2,c3,c4,c5,c6,c7,c8,c9⟩:=cnt_parts hcnt
  have hl:g.lo.length=cl.length:=by rw [h1,List.length_map]
  obtain ⟨c0,hc0⟩:∃ c0,cl[0]?=some c0:=⟨_,List.getElem?_eq_getElem (by omega)⟩
  have hL:LcAt W la ln lc (cl.map Ch.ty):=by rw [← h1];exact hG.lo.bel hW
  obtain ⟨gg,off,V0,ea,hE0,hT0⟩:=hL.one (i:=0) (t:=c0.ty) (by rw [List.getElem?_map,hc0];rfl)
  rw [Nat.zero_mul,Nat.add_zero] at hE0
  have hkk:=kind_at hT0
  refine ⟨(!im || (decide (lv=0) && decide (pa=0) && decide (V0.k=1))),main_any nm lv oa on oc pa la ln lc na nn nc qa qn qc sa sn sc im W gg off V0.k ea hE0.1 hE0.2.1 (by omega) (by omega) _ rfl,fun e=>⟨cl,hcnt,h1,h2,h3,h4,h5,fun hm=>?_⟩,fun e=>?_⟩
  ·rw [hm] at e
   simp only [Bool.not_true,Bool.false_or,Bool.and_eq_true,decide_eq_true_iff] at e
   refine ⟨by rw [← hG.lv];exact e.1.1,by rw [← hG.pa];exact e.1.2,fun c hc=>?_⟩
   rw [hc0] at hc
   cases hc
   rw [← hkk]
   exact e.2
  ·rintro ⟨cl',h⟩
   have:=uniq cl cl' h1 h.lo
   subst this
   cases im with
   | false=>cases e
   | true =>
    obtain ⟨m1,m2,m3⟩:=h.main rfl
    rw [hG.lv,hG.pa,decide_eq_true m1,decide_eq_true m2,hkk,decide_eq_true (m3 c0 hc0)] at e
    cases e
structure UnAt (w:World) (ua:Option Addr) (un:Nat) (gs:List Grp):Prop where
 len:un=gs.length
 at_:∀ (j:Nat) (g:Grp),gs[j]?=some g→∃ ug uo nm lv oa on oc pa la ln lc na nn nc qa qn qc,ua=some ⟨ug,uo,none⟩∧C7 w ug (uo+j*7) nm lv oa on oc pa la ln lc na nn nc qa qn qc∧GrC w nm lv oa on oc pa la ln lc na nn nc qa qn qc g
def isMn (mn:Int) (j:Nat):Bool:=((j:Int) == mn)
def HfIs (n:Nat) (mn:Int) (gs:List Grp):Option Nat→Prop
 | none=>∀ (j:Nat) (g:Grp),gs[j]?=some g→HdP n (isMn mn j) g
 | some j=>(∃ g,gs[j]?=some g∧¬ HdP n (isMn mn j) g)∧∀ (j':Nat) (g:Grp),j'<j→gs[j']?=some g→HdP n (isMn mn j') g
def hfV:Option Nat→Value
 | none=>.tuple #[.int .i64 0,.int .i64 0,.bool false]
 | some j=>.tuple #[.int .i64 (j:Int),.int .i64 (-1),.bool true]
theorem run_build139 (nm:ByteArray) (lv:Int) (oa:Option Addr) (on oc:Nat) (pa:Int) (la:Option Addr) (ln lc:Nat) (na:Option Addr) (nn nc:Nat) (qa:Option Addr) (qn qc:Nat) (sa:Option Addr) (sn sc:Nat) (im:Bool) (w:World) :
  (Instr.build 241 #[(0,.agg #[.string nm,.int .i64 lv,.slice oa on oc,.int .i64 pa,.slice la ln lc,.slice na nn nc,.slice qa qn qc]),(1,.slice sa sn sc),(2,.bool im)]).run Tryz.prog w=.ok (hV nm lv oa on oc pa la ln lc na nn nc qa qn qc sa sn sc im) w:=by kernel_rfl
theorem idxH_0 (W:World):(Instr.index 243 (.agg #[fnV 168,fnV 169,fnV 170,fnV 171,fnV 172]) (.int .i64 0)).run Tryz.prog W=.ok (fnV 168) W:=by kernel_rfl
theorem idxH_1 (W:World):(Instr.index 243 (.agg #[fnV 168,fnV 169,fnV 170,fnV 171,fnV 172]) (.int .i64 1)).run Tryz.prog W=.ok (fnV 169) W:=by kernel_rfl
theorem idxH_2 (W:World):(Instr.index 243 (.agg #[fnV 168,fnV 169,fnV 170,fnV 171,fnV 172]) (.int .i64 2)).run Tryz.prog W=.ok (fnV 170) W:=by kernel_rfl
theorem idxH_3 (W:World):(Instr.index 243 (.agg #[fnV 168,fnV 169,fnV 170,fnV 171,fnV 172]) (.int .i64 3)).run Tryz.prog W=.ok (fnV 171) W:=by kernel_rfl
theorem idxH_4 (W:World):(Instr.index 243 (.agg #[fnV 168,fnV 169,fnV 170,fnV 171,fnV 172]) (.int .i64 4)).run Tryz.prog W=.ok (fnV 172) W:=by kernel_rfl
theorem headFault_any (w:World) (sa ua:Option Addr) (sn sc un ucap:Nat) (mn:Int) (ss:List (List Ty)) (hSt:StAt w sa sn sc ss) (b1 b2 b3:Nat→Bool) (hb:Flt ss b1 b2 b3) (hso:(stRes sn b1 b2 b3).2=0) (gs:List Grp) (hU:UnAt w ua un gs) (hun:un≤32) :
  Calls Tryz.prog 158 #[uV sa sn sc ua un ucap mn] w fun e w'=>(∃ R,e=.returned (hfV R)∧HfIs sn mn gs R)∧Below w.heap.size w w':=by
 have HU:=jH hU
 have HStep:Hid (∀ (W:World) (nm:ByteArray) (lv:Int) (oa:Option Addr) (on oc:Nat) (pa:Int) (la:Option Addr) (ln lc:Nat) (na:Option Addr) (nn nc:Nat) (qa:Option Addr) (qn qc:Nat) (g:Grp) (im:Bool) (k:Nat),Below w.heap.size w W→GrC w nm lv oa on oc pa la ln lc na nn nc qa qn qc g→k<5→Hst sn im g k→∃ r:Bool,(Calls Tryz.prog (168+k) #[hV nm lv oa on oc pa la ln lc na nn nc qa qn qc sa sn sc im] W fun e w'=>e=.returned (.bool r)∧Below W.heap.size W w')∧(r=true→Hst sn im g (k+1))∧(r=false→¬ HdP sn im g)):=fun W nm lv oa on oc pa la ln lc na nn nc qa qn qc g im k hW hG hk h=>head_step hW hSt hb hso hG im k hk h
 have HA0:Hid (At (w.alloc (uO sa sn sc ua un ucap mn)) w.heap.size (uO sa sn sc ua un ucap mn)):=At.new _ _
 have u0:(un:Int)≤32:=by omega
 obtain ⟨V0,hV0⟩:∃ V0,V0=w.alloc (uO sa sn sc ua un ucap mn):=⟨_,rfl⟩
 rw [← hV0] at HA0
 have HB0:Hid (Below w.heap.size w V0):=jH (by rw [hV0];exact belA bR)
 clear hU hSt hb hso hun
 go_enter Tryz.func158,Tryz.ntmps158
 go_upto_region 1 with fail
 rw [← hV0]
 clear hV0
 obtain ⟨d0,d1,d2⟩:=HA0.out.un
 go_wp2_with fail
 clear d0 d1 d2
 go_loopw [13] (fun v V=>∃ j:Nat,j≤un∧v=.int .i64 (j:Int)∧(∀ (j':Nat) (g:Grp),j'<j→gs[j']?=some g→HdP sn (isMn mn j') g)∧At V w.heap.size (uO sa sn sc ua un ucap mn)∧Below w.heap.size w V) (fun v _=>un - (intOf v).toNat)
 case atStart=>exact ⟨0,Nat.zero_le _,rfl,fun j' g h=>by omega,HA0.out,HB0.out⟩
 case round =>
  clear HA0 HB0
  obtain ⟨j,hj,rfl,h1,hA,hB⟩:=hrel
  have HJ1:=jH h1
  have HA:=jH hA
  have HB:=jH hB
  clear h1 hA hB
  by_cases hlt:j<un
  ·obtain ⟨g,hg⟩:∃ g,gs[j]?=some g:=⟨_,List.getElem?_eq_getElem (by rw [← HU.out.len];exact hlt)⟩
   obtain ⟨ug,uo,nm,lv,oa,on,oc,pa,la,ln,lc,na,nn,nc,qa,qn,qc,ea,hC7,hGr⟩:=HU.out.at_ j g hg
   have ea2:ua=some ⟨ug,uo,none⟩:=ea
   subst ea2
   obtain ⟨g0,g1,g2,g3,g4,g5,g6⟩:=(hC7.bel HB.out).cells
   have hug:=(hC7.bel HB.out).1
   simp only [Nat.add_zero] at g0
   have HG:=jH hg
   have HGR:=jH hGr
   have j0:(0:Int)≤(j:Int):=by omega
   have j1:(j:Int)<(un:Int):=by omega
   obtain ⟨im,him⟩:∃ im,((j:Int) == mn)=im:=⟨_,rfl⟩
   have HIM:Hid (isMn mn j=im):=him
   have HLT:=jH hlt
   have HA7:Hid (At (wr.alloc (.cells #[.string nm,.int .i64 lv,.slice oa on oc,.int .i64 pa,.slice la ln lc,.slice na nn nc,.slice qa qn qc] 73 (0,0))) w.heap.size (uO sa sn sc (some ⟨ug,uo,none⟩) un ucap mn)):=jH (HA.out.alloc _)
   have HB7:Hid (Below w.heap.size w (wr.alloc (.cells #[.string nm,.int .i64 lv,.slice oa on oc,.int .i64 pa,.slice la ln lc,.slice na nn nc,.slice qa qn qc] 73 (0,0)))):=jH (belA HB.out)
   obtain ⟨b7,hb7⟩:∃ b7,b7=wr.heap.size:=⟨_,rfl⟩
   have HG7:Hid (C7 (wr.alloc (.cells #[.string nm,.int .i64 lv,.slice oa on oc,.int .i64 pa,.slice la ln lc,.slice na nn nc,.slice qa qn qc] 73 (0,0))) b7 0 nm lv oa on oc pa la ln lc na nn nc qa qn qc):=jH (by rw [hb7];exact at_c7 (At.new _ _))
   clear hg hC7 hGr ea hlt hj
   go_upto_region 4 with fail
   generalize wr.alloc (.cells #[.string nm,.int .i64 lv,.slice oa on oc,.int .i64 pa,.slice la ln lc,.slice na nn nc,.slice qa qn qc] 73 (0,0))=w7 at *
   rw [← hb7]
   clear g0 g1 g2 g3 g4 g5 g6 hug hb7 HA HB
   obtain ⟨g0,g1,g2,g3,g4,g5,g6⟩:=HG7.out.cells
   simp only [Nat.zero_add] at g0 g1 g2 g3 g4 g5 g6
   obtain ⟨d0,d1,d2⟩:=HA7.out.un
   have hbd:=fun W=>run_build139 nm lv oa on oc pa la ln lc na nn nc qa qn qc sa sn sc im W
   have HA8:Hid (At (w7.alloc (hO nm lv oa on oc pa la ln lc na nn nc qa qn qc sa sn sc im)) w.heap.size (uO sa sn sc (some ⟨ug,uo,none⟩) un ucap mn)):=jH (HA7.out.alloc _)
   have HB8:Hid (Below w.heap.size w (w7.alloc (hO nm lv oa on oc pa la ln lc na nn nc qa qn qc sa sn sc im))):=jH (belA HB7.out)
   have HH8:Hid (At (w7.alloc (hO nm lv oa on oc pa la ln lc na nn nc qa qn qc sa sn sc im)) w7.heap.size (hO nm lv oa on oc pa la ln lc na nn nc qa qn qc sa sn sc im)):=jH (At.new _ _)
   go_upto_region 5 with fail
   generalize w7.alloc (hO nm lv oa on oc pa la ln lc na nn nc qa qn qc sa sn sc im)=w8 at *
   obtain ⟨b8,hb8⟩:∃ b8,b8=w7.heap.size:=⟨_,rfl⟩
   rw [← hb8] at HH8 ⊢
   clear g0 g1 g2 g3 g4 g5 g6 d0 d1 d2 hbd HA7 HB7 HG7 hb8
   go_wp2_with fail
   go_loopw [27] (fun v V=>∃ k:Nat,k≤5∧v=.int .i64 (k:Int)∧Hst sn im g k∧At V w.heap.size (uO sa sn sc (some ⟨ug,uo,none⟩) un ucap mn)∧At V b8 (hO nm lv oa on oc pa la ln lc na nn nc qa qn qc sa sn sc im)∧Below w.heap.size w V) (fun v _=>5 - (intOf v).toNat)
   case atStart=>exact ⟨0,by omega,rfl,trivial,HA8.out,HH8.out,HB8.out⟩
   case round =>
    clear HA8 HH8 HB8
    obtain ⟨k,hk,rfl,hS,hA,hH,hB⟩:=hrel
    have HS:=jH hS
    have HA:=jH hA
    have HH:=jH hH
    have HB:=jH hB
    clear hS hA hH hB
    obtain ⟨d0,d1,d2,d3,d4,d5,d6,d7,d8⟩:=HH.out.hd
    by_cases hlt:k<5
    ·have hk5:k=0∨k=1∨k=2∨k=3∨k=4:=by omega
     rcases hk5 with rfl|rfl|rfl|rfl|rfl
     ·obtain ⟨r,hC,hY,hN⟩:=HStep.out wr nm lv oa on oc pa la ln lc na nn nc qa qn qc g im 0 HB.out HGR.out (by omega) HS.out
      rw [show 168+0=168 from rfl] at hC
      have C:=jH hC
      have HY:=jH hY
      have HN:=jH hN
      have hix:∀ W,(Instr.index 243 (.agg #[fnV 168,fnV 169,fnV 170,fnV 171,fnV 172]) (.int .i64 0)).run Tryz.prog W=.ok (fnV 168) W:=fun W=>idxH_0 W
      clear hC hY hN hlt hk
      rw [show ((0:Nat):Int)=0 from rfl]
      cases r with
      | true =>
       go_wp2_with (go_at_call 168;refine C.out.mono ?_;rintro e w5 ⟨rfl,hb5⟩;have HA5:=jH (HA.out.below hb5);have HH5:=jH (HH.out.below hb5);have HB5:=jH (jB HB.out hb5);clear hb5)
       exact ⟨⟨1,by omega,rfl,HY.out (by first|rfl|trivial),HA5.out,HH5.out,HB5.out⟩,by show 5 - (1:Int).toNat<5 - (0:Int).toNat;decide⟩
      | false =>
       go_wp2_with (go_at_call 168;refine C.out.mono ?_;rintro e w5 ⟨rfl,hb5⟩;have HB5:=jH (jB HB.out hb5);clear hb5)
       go_ret3
       exact ⟨⟨some j,rfl,⟨g,HG.out,by rw [HIM.out];exact HN.out (by first|rfl|trivial)⟩,HJ1.out⟩,HB5.out⟩
     ·obtain ⟨r,hC,hY,hN⟩:=HStep.out wr nm lv oa on oc pa la ln lc na nn nc qa qn qc g im 1 HB.out HGR.out (by omega) HS.out
      rw [show 168+1=169 from rfl] at hC
      have C:=jH hC
      have HY:=jH hY
      have HN:=jH hN
      have hix:∀ W,(Instr.index 243 (.agg #[fnV 168,fnV 169,fnV 170,fnV 171,fnV 172]) (.int .i64 1)).run Tryz.prog W=.ok (fnV 169) W:=fun W=>idxH_1 W
      clear hC hY hN hlt hk
      rw [show ((1:Nat):Int)=1 from rfl]
      cases r with
      | true =>
       go_wp2_with (go_at_call 169;refine C.out.mono ?_;rintro e w5 ⟨rfl,hb5⟩;have HA5:=jH (HA.out.below hb5);have HH5:=jH (HH.out.below hb5);have HB5:=jH (jB HB.out hb5);clear hb5)
       exact ⟨⟨2,by omega,rfl,HY.out (by first|rfl|trivial),HA5.out,HH5.out,HB5.out⟩,by show 5 - (2:Int).toNat<5 - (1:Int).toNat;decide⟩
      | false =>
       go_wp2_with (go_at_call 169;refine C.out.mono ?_;rintro e w5 ⟨rfl,hb5⟩;have HB5:=jH (jB HB.out hb5);clear hb5)
       go_ret3
       exact ⟨⟨some j,rfl,⟨g,HG.out,by rw [HIM.out];exact HN.out (by first|rfl|trivial)⟩,HJ1.out⟩,HB5.out⟩
     ·obtain ⟨r,hC,hY,hN⟩:=HStep.out wr nm lv oa on oc pa la ln lc na nn nc qa qn qc g im 2 HB.out HGR.out (by omega) HS.out
      rw [show 168+2=170 from rfl] at hC
      have C:=jH hC
      have HY:=jH hY
      have HN:=jH hN
      have hix:∀ W,(Instr.index 243 (.agg #[fnV 168,fnV 169,fnV 170,fnV 171,fnV 172]) (.int .i64 2)).run Tryz.prog W=.ok (fnV 170) W:=fun W=>idxH_2 W
      clear hC hY hN hlt hk
      rw [show ((2:Nat):Int)=2 from rfl]
      cases r with
      | true =>
       go_wp2_with (go_at_call 170;refine C.out.mono ?_;rintro e w5 ⟨rfl,hb5⟩;have HA5:=jH (HA.out.below hb5);have HH5:=jH (HH.out.below hb5);have HB5:=jH (jB HB.out hb5);clear hb5)
       exact ⟨⟨3,by omega,rfl,HY.out (by first|rfl|trivial),HA5.out,HH5.out,HB5.out⟩,by show 5 - (3:Int).toNat<5 - (2:Int).toNat;decide⟩
      | false =>
       go_wp2_with (go_at_call 170;refine C.out.mono ?_;rintro e w5 ⟨rfl,hb5⟩;have HB5:=jH (jB HB.out hb5);clear hb5)
       go_ret3
       exact ⟨⟨some j,rfl,⟨g,HG.out,by rw [HIM.out];exact HN.out (by first|rfl|trivial)⟩,HJ1.out⟩,HB5.out⟩
     ·obtain ⟨r,hC,hY,hN⟩:=HStep.out wr nm lv oa on oc pa la ln lc na nn nc qa qn qc g im 3 HB.out HGR.out (by omega) HS.out
      rw [show 168+3=171 from rfl] at hC
      have C:=jH hC
      have HY:=jH hY
      have HN:=jH hN
      have hix:∀ W,(Instr.index 243 (.agg #[fnV 168,fnV 169,fnV 170,fnV 171,fnV 172]) (.int .i64 3)).run Tryz.prog W=.ok (fnV 171) W:=fun W=>idxH_3 W
      clear hC hY hN hlt hk
      rw [show ((3:Nat):Int)=3 from rfl]
      cases r with
      | true =>
       go_wp2_with (go_at_call 171;refine C.out.mono ?_;rintro e w5 ⟨rfl,hb5⟩;have HA5:=jH (HA.out.below hb5);have HH5:=jH (HH.out.below hb5);have HB5:=jH (jB HB.out hb5);clear hb5)
       exact ⟨⟨4,by omega,rfl,HY.out (by first|rfl|trivial),HA5.out,HH5.out,HB5.out⟩,by show 5 - (4:Int).toNat<5 - (3:Int).toNat;decide⟩
      | false =>
       go_wp2_with (go_at_call 171;refine C.out.mono ?_;rintro e w5 ⟨rfl,hb5⟩;have HB5:=jH (jB HB.out hb5);clear hb5)
       go_ret3
       exact ⟨⟨some j,rfl,⟨g,HG.out,by rw [HIM.out];exact HN.out (by first|rfl|trivial)⟩,HJ1.out⟩,HB5.out⟩
     ·obtain ⟨r,hC,hY,hN⟩:=HStep.out wr nm lv oa on oc pa la ln lc na nn nc qa qn qc g im 4 HB.out HGR.out (by omega) HS.out
      rw [show 168+4=172 from rfl] at hC
      have C:=jH hC
      have HY:=jH hY
      have HN:=jH hN
      have hix:∀ W,(Instr.index 243 (.agg #[fnV 168,fnV 169,fnV 170,fnV 171,fnV 172]) (.int .i64 4)).run Tryz.prog W=.ok (fnV 172) W:=fun W=>idxH_4 W
      clear hC hY hN hlt hk
      rw [show ((4:Nat):Int)=4 from rfl]
      cases r with
      | true =>
       go_wp2_with (go_at_call 172;refine C.out.mono ?_;rintro e w5 ⟨rfl,hb5⟩;have HA5:=jH (HA.out.below hb5);have HH5:=jH (HH.out.below hb5);have HB5:=jH (jB HB.out hb5);clear hb5)
       exact ⟨⟨5,by omega,rfl,HY.out (by first|rfl|trivial),HA5.out,HH5.out,HB5.out⟩,by show 5 - (5:Int).toNat<5 - (4:Int).toNat;decide⟩
      | false =>
       go_wp2_with (go_at_call 172;refine C.out.mono ?_;rintro e w5 ⟨rfl,hb5⟩;have HB5:=jH (jB HB.out hb5);clear hb5)
       go_ret3
       exact ⟨⟨some j,rfl,⟨g,HG.out,by rw [HIM.out];exact HN.out (by first|rfl|trivial)⟩,HJ1.out⟩,HB5.out⟩
    ·obtain rfl:k=5:=by omega
     have HOK:Hid (HdP sn im g):=HS.out
     clear hlt hk
     rw [show ((5:Nat):Int)=5 from rfl]
     go_wp2_with fail
     refine ⟨⟨j+1,HLT.out,rfl,fun j' g' hj' hg'=>?_,HA.out,HB.out⟩,?_⟩
     ·rcases Nat.lt_or_ge j' j with h1|h1
      ·exact HJ1.out j' g' h1 hg'
      ·obtain rfl:j'=j:=by omega
       have:=HG.out
       rw [hg'] at this
       cases this
       rw [HIM.out]
       exact HOK.out
     ·show un - ((j:Int)+1).toNat<un - (j:Int).toNat
      have:=HLT.out
      omega
  ·obtain rfl:j=un:=by omega
   have lt:¬ (j:Int)<(j:Int):=by omega
   clear hlt hj
   go_wp2_with fail
   go_ret3
   exact ⟨⟨none,rfl,fun j' g hg=>HJ1.out j' g (by have:=(List.getElem?_eq_some_iff.1 hg).1;rw [HU.out.len];exact this) hg⟩,HB.out⟩
end Go.Proofs.YtmjenlogbkbgnaaGreatDoor
