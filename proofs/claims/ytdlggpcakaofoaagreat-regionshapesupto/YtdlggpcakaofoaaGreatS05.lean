import Derived.Test.YtdlggpcakaofoaaGreatS04
import Derived.Test.YtdlggpcakaofoaaGreatS03
namespace Go.Proofs.YtdlggpcakaofoaaGreat
open Go.RowKit Go.Shelf
set_option linter.unusedVariables false
set_option linter.unusedSimpArgs false
set_option maxRecDepth 100000
set_option maxHeartbeats 4000000
theorem execOp_load70 {W:World} {g o:Nat} {nm:ByteArray} {lv:Int} {oa:Option Addr} {on oc:Nat} {pa:Int} {la:Option Addr} {ln lc:Nat} {na:Option Addr} {nn nc:Nat} {qa:Option Addr} {qn qc:Nat} (h:C7 W g o nm lv oa on oc pa la ln lc na nn nc qa qn qc) {ev:Operand→Value} {op:Oper} {x:Nat} (ho:op.op=.load 70 (.tmp x)) (hx:ev (.tmp x)=.pointer (some ⟨g,o,none⟩)) :
  (execOp ev op).run Tryz.prog W=.ok (.value (.agg #[.string nm,.int .i64 lv,.slice oa on oc,.int .i64 pa,.slice la ln lc,.slice na nn nc,.slice qa qn qc])) W:=by
 have hr:=run_loadVar_mid (P:=Tryz.prog) W g o 70 [.string nm,.int .i64 lv,.slice oa on oc,.int .i64 pa,.slice la ln lc,.slice na nn nc,.slice qa qn qc] _ h.2 Tryz.underlying70 rfl (by kernel_rfl)
 unfold execOp
 simp [ho,hx,Instr.loadAt,Instr.sureAddr,hr,Result.andThen]
theorem okR_all {R:List Int→Int→Prop}:∀ (c:Ch) (l:List Int),(∀ l r,r∈c.regs→R l r)→okR R l c
 | .leaf _ _,_,_=>trivial
 | .box c,l,h=>okR_all c l (fun l r hr=>h l r hr)
 | .ref _ r c,l,h=>⟨h l r (by simp [Ch.regs]),okR_all c _ (fun l r hr=>h l r (by simp [Ch.regs,hr]))⟩
structure CR (U W:World) (i:Nat) (aP:Option Addr) (cP:Nat) (cs:List Ch) (fl:List Fv) (lo hi:Nat→Nat):Prop where
 row:FRow W U.heap.size (.slice aP i cP) cs fl lo hi
 bel:Below U.heap.size U W
 len:cs.length=i
theorem CR.next {U W w2 w4:World} {i:Nat} {aP:Option Addr} {cP:Nat} {cs:List Ch} {fl:List Fv} {lo hi:Nat→Nat} (h:CR U W i aP cP cs fl lo hi) {o:Obj} {f':Fv} {c:Ch} (hN:New (W.alloc o) w2 f' c) {g c2:Nat} (hr:w4.ownsRow U.heap.size 46 5 (.slice (some ⟨g,0,none⟩) (i+1) c2) (i+1) (tCells fl++t5 f')) (hg:(w2.alloc f'.o).grownBy w4 (Value.slice aP i cP).ownBlock) (hw:(Value.slice aP i cP).ownBlock=some g∨g=(w2.alloc f'.o).heap.size) :
  CR U w4 (i+1) (some ⟨g,0,none⟩) c2 (cs++[c]) (fl++[f']) (upd lo i (W.alloc o).heap.size) (upd hi i w2.heap.size):=by
 have hsU:=h.bel.size
 have hz1:(W.alloc o).heap.size=W.heap.size+1:=by simp
 have hz2:(w2.alloc f'.o).heap.size=w2.heap.size+1:=by simp
 have hs2:=hN.bel.size
 have hlo:∀ b,(Value.slice aP i cP).ownBlock=some b→U.heap.size≤b∧b<W.heap.size:=fun b e=>⟨own_lo h.row.row b e,(h.row.row.lt b e).2⟩
 have hB3:Below W.heap.size W (w2.alloc f'.o):=jB (belA bR) (belA hN.bel)
 have hF3:=h.row.bel hB3
 have hO3:OwnL (w2.alloc f'.o) (W.alloc o).heap.size w2.heap.size f' c:=hN.own.bel (belA bR)
 refine ⟨?_,(jB h.bel hB3).grown hg (by omega) (fun k e=>(hlo k e).1),by simp [h.len]⟩
 have:=hF3.snoc hO3 (by omega) hs2 (by omega) (fun k hk=>by have:=(h.row.rng k hk).2.2.1;omega) (fun b e=>by have:=hlo b e;omega) (by rw [h.len];exact hr) hg (fun b e=>by
  simp only [Value.ownBlock,Option.some.injEq] at e
  subst e
  rcases hw with e|e
  ·exact .inl e
  ·exact .inr (by omega))
 rw [h.len] at this
 exact this
theorem Called_yes {w:World} {a:Option Addr} {ug uo:Nat} {n cap un ucap:Nat} {mn:Int} {gs:List Grp} {j:Nat} {g:Grp} {cl:List Ch} {fc:Nat→List Ch} (h:UG1 w a (some ⟨ug,uo,none⟩) n cap un ucap mn gs j g cl fc) (hc:cntP gs (cntL g.lv cl) g.pt≤512) {q:Nat} {p:Pnt} (hp:g.pt[q]?=some p) (ho:p.op=7)
  {j2 pn:Nat} (hj2:p.fn=(j2:Int)) (hj2n:j2<un) {nm2:ByteArray} {lv2:Int} {oa2:Option Addr} {on2 oc2:Nat} {la2:Option Addr} {ln2 lc2:Nat} {na2:Option Addr} {nn2 nc2:Nat} {qa2:Option Addr} {qn2 qc2:Nat} (hC2:C7 w ug (uo+j2*7) nm2 lv2 oa2 on2 oc2 (pn:Int) la2 ln2 lc2 na2 nn2 nc2 qa2 qn2 qc2) {cl2:List Ch} (hL2:LcAt w la2 ln2 lc2 (cl2.map Ch.ty)) (hl512:cl2.length≤512) (hpn:pn+1≤cl2.length) (hlc:ln2≤lc2) (hok2:∀ c∈cl2,Ok c) (hreg:∀ (k:Nat) (c:Ch),k≤pn→cl2[k]?=some c→∀ r∈c.regs,0≤r∧r≤100000) {x:Int} (hx:(atR gs (cntL g.lv cl) g.pt)[q]?=some x) (hx0:-1≤x) (hx1:x≤100000) :
  Calls Tryz.prog 23 #[uV a n cap (some ⟨ug,uo,none⟩) un ucap mn,.int .i64 (j:Int),.int .i64 (q:Int)] w fun e w'=>∃ (aP:Option Addr) (cP:Nat) (f':Fv),e=.returned (.tuple #[.slice aP pn cP,f'.v,.int .i64 0])∧(∃ fl lo hi,FRow w' w.heap.size (.slice aP pn cP) (((cl2.drop 1).take pn).map (turnC (fun _ r=>x+r) [])) fl lo hi)∧(∃ c0,cl2[0]?=some c0∧New w w' f' (turnC (fun _ r=>x+r) [] c0)):=by
 obtain ⟨ug',uo',qa,qn,qc,pg,po,pv,hPt⟩:=ptOf_ex h hp
 have eu:=hPt.eu
 cases eu
 obtain ⟨A2',A5',A7'⟩:=three_new w (uO a n cap (some ⟨ug,uo,none⟩) un ucap mn) (One (.int .i64 (q:Int)) 3) zT.o
 have hB:Below w.heap.size w (((w.alloc (uO a n cap (some ⟨ug,uo,none⟩) un ucap mn)).alloc (One (.int .i64 (q:Int)) 3)).alloc zT.o):=belA (belA (belA bR))
 obtain ⟨V,hV⟩:∃ V,V=(((w.alloc (uO a n cap (some ⟨ug,uo,none⟩) un ucap mn)).alloc (One (.int .i64 (q:Int)) 3)).alloc zT.o):=⟨_,rfl⟩
 have hz:Hid (V.heap.size=w.heap.size+3):=jH (by rw [hV];simp only [World.size_alloc])
 rw [← hV] at A2' A5' A7' hB
 have A2:=jH A2'
 have A5:=jH A5'
 have A7:=jH A7'
 have CK:=jH (maker_yes (h.bel hB) hc hp 7 ho)
 have HPT:Hid (∀ W,Below w.heap.size w W→ug<W.heap.size∧W.cell? ⟨ug,uo+j*7+6,none⟩=some (.slice (some ⟨pg,po,none⟩) qn qc)∧pg<W.heap.size∧W.rangeAt pg (po+q*21) (pC pv)):=jH fun W hW=>by
  have k:=hPt.bel hW
  exact ⟨k.ul,by rw [← k.eq];exact k.c6,k.pl,k.rng⟩
 have HFN:Hid (pv.fn=(j2:Int)):=jH (by rw [hPt.pt.fn];exact hj2)
 have HC2:=jH hC2
 have HL2:=jH hL2
 have j0:(0:Int)≤(j:Int):=by omega
 have j1:(j:Int)<(un:Int):=by have:=h.rg.jn;omega
 have jj0:(0:Int)≤(j2:Int):=by omega
 have jj1:(j2:Int)<(un:Int):=by omega
 have u32:(un:Int)≤32:=by have:=h.rg.un32;omega
 have q0:(0:Int)≤(q:Int):=by omega
 have q1:(q:Int)<(qn:Int):=by have:=hPt.ql;omega
 have q2:(qn:Int)≤1024:=by have:=hPt.qn5;omega
 have hqp:q<g.pt.length:=(List.getElem?_eq_some_iff.1 hp).1
 have hgp:g.pt.length≤1024:=h.rg.ptn
 have HB:=jH hB
 have HV:=jH hV
 have HX:=jH hx
 have HX01:=jH (And.intro hx0 hx1)
 have HOK2:=jH hok2
 have HREG:=jH hreg
 obtain ⟨X,hX⟩:∃ X,X=atR gs (cntL g.lv cl) g.pt:=⟨_,rfl⟩
 have CK2:Hid (Calls Tryz.prog 50 #[uV a n cap (some ⟨ug,uo,none⟩) un ucap mn,.int .i64 (j:Int),.int .i64 (q:Int),.int .u8 7] V fun e w'=>∃ (lv:Int) (np:Nat) (cn:Int) (nl:Nat) (aL:Option Addr) (cL:Nat) (aA:Option Addr) (cA:Nat),e=.returned (.tuple #[rgV lv np cn (.slice aL nl cL) (.slice aA np cA),.int .i64 0])∧w'.ownsRow V.heap.size 3 1 (.slice aA np cA) np (iCells X)∧Below V.heap.size V w'∧q<np∧np≤1024):=jH (CK.out.mono fun e w' k=>by
  obtain ⟨aL,cL,aA,cA,h1,h2,h3⟩:=k
  exact ⟨_,_,_,_,aL,cL,aA,cA,h1,by rw [hX];exact h2.ats,h3,hqp,hgp⟩)
 rw [← hX] at HX
 clear h hc hB hV hPt hp ho hj2 hC2 hL2 hok2 hreg hx hx0 hx1 hX CK hqp hgp A2' A5' A7'
 go_enter Tryz.func23,Tryz.ntmps23
 go_upto_region 1 with fail
 change Code.wp _ _ _ _ (((w.alloc (uO a n cap (some ⟨ug,uo,none⟩) un ucap mn)).alloc (One (.int .i64 (q:Int)) 3)).alloc zT.o)
 rw [← HV.out]
 clear HV
 obtain ⟨u0,u1,u2⟩:=A2.out.un
 obtain ⟨x0,x1⟩:=A5.out.one
 go_upto_region 2 with (go_at_call 50;refine CK2.out.mono ?_;rintro e w1 ⟨lv,np,cn,nl,aL,cL,aA,cA,rfl,hA,hb1,hqp,hgp⟩;have HA:=jH hA;have HB1:=jH hb1;clear hA hb1 u0 u1 u2 x0 x1)
 have A9:Hid (At (w1.alloc (rgO lv np cn (.slice aL nl cL) (.slice aA np cA))) w1.heap.size (rgO lv np cn (.slice aL nl cL) (.slice aA np cA))):=jH (At.new _ _)
 have A22:=jH ((A2.out.below HB1.out).alloc (rgO lv np cn (.slice aL nl cL) (.slice aA np cA)))
 have A52:=jH ((A5.out.below HB1.out).alloc (rgO lv np cn (.slice aL nl cL) (.slice aA np cA)))
 have A72:=jH ((A7.out.below HB1.out).alloc (rgO lv np cn (.slice aL nl cL) (.slice aA np cA)))
 have HB2:=jH (belA HB1.out (o:=(rgO lv np cn (.slice aL nl cL) (.slice aA np cA))))
 have HA2:=jH (own_bel HA.out (belA bR (o:=(rgO lv np cn (.slice aL nl cL) (.slice aA np cA)))))
 have HS2:=jH HB1.out.size
 obtain ⟨b9,hb9⟩:∃ b9,b9=w1.heap.size:=⟨_,rfl⟩
 rw [← hb9] at A9 HS2 ⊢
 change Code.wp _ _ _ _ (w1.alloc (rgO lv np cn (.slice aL nl cL) (.slice aA np cA)))
 generalize (w1.alloc (rgO lv np cn (.slice aL nl cL) (.slice aA np cA)))=U at A9 A22 A52 A72 HB2 HA2 ⊢
 clear HA HB1 A2 A5 A7 CK2 hb9
 obtain ⟨gA,cA2,hvA⟩:=own_is HA2.out (by omega)
 have evA:aA=some ⟨gA,0,none⟩:=by have:=hvA;simp only [Value.slice.injEq] at this;exact this.1
 subst evA
 clear hvA
 go_upto_region 5 with fail
 refine beginH (S:=fun W=>Below U.heap.size U W) (fun _ _ _ _ _ h=>h) (by kernel_rfl) bR.drew (fun hq hH=>?_)
 refine tz 0 26 _ hq rfl rfl hH ?_
 simp only [pb,pc]
 refine tq 1 27 (.slice (some ⟨ug,uo,none⟩) un ucap) hq rfl rfl (fun W hSw=>by (obtain ⟨u0,u1,u2⟩:=(A22.out.below hSw).un;go_simp;try rfl)) hH ?_
 simp only [pb,pc]
 refine tz 2 28 _ hq rfl rfl hH ?_
 simp only [pb,pc]
 refine tq 3 29 (.slice (some ⟨ug,uo,none⟩) un ucap) hq rfl rfl (fun W hSw=>by (obtain ⟨u0,u1,u2⟩:=(A22.out.below hSw).un;go_simp;try rfl)) hH ?_
 simp only [pb,pc]
 refine tz 4 30 _ hq rfl rfl hH ?_
 simp only [pb,pc]
 refine tz 5 31 (.pointer (some ⟨ug,uo+j*7,none⟩)) hq rfl rfl hH ?_
 simp only [pb,pc]
 refine tz 6 32 (.pointer (some ⟨ug,uo+j*7+6,none⟩)) hq rfl rfl hH ?_
 simp only [pb,pc]
 refine tq 7 33 (.slice (some ⟨pg,po,none⟩) qn qc) hq rfl rfl (fun W hSw=>by (obtain ⟨x1,x2,x3,x4⟩:=HPT.out _ (jB (jB HB.out HB2.out) hSw);go_simp;try rfl)) hH ?_
 simp only [pb,pc]
 refine tq 8 34 (.int .i64 (q:Int)) hq rfl rfl (fun W hSw=>by (obtain ⟨c0,c1⟩:=(A52.out.below hSw).one;go_simp;try rfl)) hH ?_
 simp only [pb,pc]
 refine tz 9 35 (.pointer (some ⟨pg,po+q*21,none⟩)) hq rfl rfl hH ?_
 simp only [pb,pc]
 refine tz 10 36 (.pointer (some ⟨pg,po+q*21+16,none⟩)) hq rfl rfl hH ?_
 simp only [pb,pc]
 refine tq 11 37 (.int .i64 (j2:Int)) hq rfl rfl (fun W hSw=>by (obtain ⟨x1,x2,x3,x4⟩:=HPT.out _ (jB (jB HB.out HB2.out) hSw);have x5:=x4 16 _ rfl;rw [HFN.out] at x5;clear x4;go_simp;try rfl)) hH ?_
 simp only [pb,pc]
 refine tz 12 38 (.pointer (some ⟨ug,uo+j2*7,none⟩)) hq rfl rfl hH ?_
 simp only [pb,pc]
 refine tq 13 39 (.agg #[.string nm2,.int .i64 lv2,.slice oa2 on2 oc2,.int .i64 (pn:Int),.slice la2 ln2 lc2,.slice na2 nn2 nc2,.slice qa2 qn2 qc2]) hq rfl rfl (fun W hSw=>by (have hC:=HC2.out.bel (jB (jB HB.out HB2.out) hSw);exact execOp_load70 hC rfl rfl)) hH ?_
 simp only [pb,pc]
 generalize U.drew=W0 at hH ⊢
 refine aR1 14 rfl (fun K hK=>?_)
 go_simp
 go_wp2_with fail
 refine hK.out _ _ (hH.trans ((belA bR).mono hH.size)) (fun hHeld2=>?_)
 clear hK K
 try simp only [Act.put,List.setIfInBounds_toArray,pb,pc]
 have hh1:=jH hH
 have hh2:=jH hHeld2
 clear hH hHeld2
 have hH:=hh2.out
 refine aRd [15] ?_
 refine AllReadyH.cons (o:={ dst:=none,op:=.store 70 (.tmp 11) (.tmp 39),type:=0,pos := "region.go:39",after:=_,guard:=none }) rfl (fun K hK=>?_) AllReadyH.nil
 rw [if_pos (by rfl)]
 refine wp_store56 W0.heap.size nm2 lv2 oa2 on2 oc2 (pn:Int) la2 ln2 lc2 na2 nn2 nc2 qa2 qn2 qc2 rfl rfl (there_new W0 _ _ 7 rfl) (by simp) rfl rfl ?_
 intro U6 h9 hb9
 have hB6:Below U.heap.size U U6:=belBut (belA hh1.out) hb9 hh1.out.size (by have:=hh1.out.size;simp;omega)
 refine hK.out _ _ hB6 (fun hHeld2=>?_)
 clear hK K hH hHeld2
 try simp only [Act.put,List.setIfInBounds_toArray,pb,pc]
 refine wpAnyH_done (by kernel_rfl) ?_ _
 have H9:=jH h9
 have HS6:=jH (show U.heap.size≤W0.heap.size from hh1.out.size)
 obtain ⟨b11,hb11⟩:∃ b11,b11=W0.heap.size:=⟨_,rfl⟩
 rw [← hb11] at H9 HS6 ⊢
 have HB6:=jH (jB HB2.out hB6)
 have B96:=jH (A9.out.below hB6)
 have B56:=jH (A52.out.below hB6)
 have B76:=jH (A72.out.below hB6)
 have HA6:=jH (own_bel HA2.out hB6)
 have HSU:=jH (A9.out.lt)
 clear h9 hb9 hh1 hh2 hb11 hB6 A9 A22 A52 A72 HB2 HA2 hq
 obtain ⟨e0,e1,e2,e3,e4,e5,e6⟩:=H9.out.cells
 simp only [Nat.zero_add] at e0 e1 e2 e3 e4 e5 e6
 have HL6:=jH (HL2.out.bel (jB HB.out HB6.out))
 obtain ⟨gl,ol,hla,hcells⟩:=HL6.out.cells (by intro e;have:cl2=[]:=(by simpa using e);rw [this] at hpn;simp at hpn)
 subst hla
 have hln2:ln2=cl2.length:=by have:=HL6.out.len;rw [List.length_map] at this;exact this
 have HCL:=jH hcells
 clear hcells
 have p1:(1:Int)≤1+(pn:Int):=by omega
 have p2:(1:Int)+(pn:Int)≤(lc2:Int):=by omega
 have w1':IntKind.i64.wrap (1+(pn:Int))=1+(pn:Int):=by rw [IntKind.wrap_i64];omega
 have pz:((1:Int)+(pn:Int)).toNat=pn+1:=by omega
 have p3:(0:Int)≤1+(pn:Int):=by omega
 have pm:pn+1 - 1=pn:=by omega
 have hb11l:=H9.out.1
 have HGX:Hid (gA<U6.heap.size∧U6.cell? ⟨gA,q,none⟩=some (.int .i64 x)):=jH ⟨(HA6.out.lt gA rfl).2,(own_cell HA6.out (iC_at HX.out)).1⟩
 have CT:Hid (∀ W,Below U6.heap.size U6 W→∀ (k:Nat) (c:Ch),k≤pn→cl2[k]?=some c→∀ f:Fv,TyAt W f c.ty→Calls Tryz.prog 52 #[f.v,fnC 51 b9 (w.heap.size+1)] W fun e w'=>∃ f':Fv,e=.returned f'.v∧New W w' f' (turnC (fun _ r=>x+r) [] c)):=jH fun W hW k c hk hc f hf=>by
  have hsW:=hW.size
  have s9:=B96.out.lt
  have s5:=B56.out.lt
  have sA:=HGX.out.1
  refine (rturned_any2 (turnK W b9 (w.heap.size+1) lv np cn (.slice aL nl cL) gA cA q x (by omega) ((hW.cell (p:=⟨gA,q,none⟩) sA).trans HGX.out.2) hqp (by omega) (by omega) (by omega) HX01.out.1 HX01.out.2) c f [] W (HOK2.out c (List.mem_of_getElem? hc)).ok (okR_all c [] (fun _ r hr=>HREG.out k c hk hc r hr)) hf ⟨B96.out.below hW,B56.out.below hW,Below.refl _ _⟩).mono fun e w' hh=>?_
  obtain ⟨f',h1,h2⟩:=hh
  exact ⟨f',h1,⟨h2.own.toL,h2.j.bel⟩⟩
 have HCW:Hid (∀ W,Below U6.heap.size U6 W→∀ (k:Nat) (c:Ch),cl2[k]?=some c→∃ f:Fv,C5 W gl (ol+k*5) f∧TyAt W f c.ty):=jH fun W hW k c hc=>by
  obtain ⟨f,h1,h2⟩:=HCL.out k c.ty (by rw [List.getElem?_map,hc];rfl)
  exact ⟨f,h1.below hW,h2.bel hW⟩
 have s9:=jH B96.out.lt
 have s5:=jH B56.out.lt
 have s7:=jH B76.out.lt
 clear HGX HREG HCL HL6 HL2 HC2 HPT HA6 HX HFN HX01 HOK2
 have HH9:=jH H9.out
 clear e0 e1 e2 e3 e4 e5 e6 H9
 have HBW:=jH (jB HB.out HB6.out)
 obtain ⟨e0,e1,e2,e3,e4,e5,e6⟩:=HH9.out.cells
 simp only [Nat.zero_add] at e0 e1 e2 e3 e4 e5 e6
 obtain ⟨i46,hi46,hz46,hs46,hb46⟩:=info_parts Tryz.info46
 have HPN:=jH hpn
 have HHL:=jH hl512
 clear hpn hl512
 go_wp2_with fail
 case inr h =>
  go_loopw [6,47] (fun v z W=>∃ (i:Nat) (aP:Option Addr) (cP:Nat) (fl:List Fv) (lo hi:Nat→Nat),i≤pn∧z=.int .i64 (i:Int)∧v=.slice aP i cP∧CR U6 W i aP cP (((cl2.drop 1).take i).map (turnC (fun _ r=>x+r) [])) fl lo hi) (fun _ z _=>pn - (intOf z).toNat)
  case atStart=>exact ⟨0,none,0,[],id,id,Nat.zero_le _,rfl,rfl,FRow.nil _ _ _ _,Below.refl _ _,rfl⟩
  case round =>
   obtain ⟨i,aP,cP,fl,lo,hi,hi5,rfl,rfl,hCR⟩:=hrel
   have HCR:=jH hCR
   clear hCR e0 e1 e2 e3 e4 e5 e6
   by_cases hlt:i<pn
   ·obtain ⟨c,hc⟩:∃ c,cl2[i+1]?=some c:=⟨_,List.getElem?_eq_getElem (by have:=HPN.out;omega)⟩
    have HTK:Hid (((cl2.drop 1).take (i+1)).map (turnC (fun _ r=>x+r) [])=((cl2.drop 1).take i).map (turnC (fun _ r=>x+r) [])++[turnC (fun _ r=>x+r) [] c]):=jH (by
     rw [List.take_add_one,List.getElem?_drop,Nat.add_comm 1 i,hc]
     simp)
    obtain ⟨⟨k,m,r,s,fa,fn,fc⟩,y1,y2⟩:=HCW.out wr HCR.out.bel (i+1) c hc
    have eo:ol+(i+1)*5=ol+5+i*5:=by omega
    rw [eo] at y1
    obtain ⟨z0,z1,z2,z3,z4,z5⟩:=y1
    have CC:Hid (Calls Tryz.prog 52 #[tyV k m r s fa fn fc,fnC 51 b9 (w.heap.size+1)] (wr.alloc (tyO k m r s fa fn fc)) fun e w'=>∃ f':Fv,e=.returned f'.v∧New (wr.alloc (tyO k m r s fa fn fc)) w' f' (turnC (fun _ r=>x+r) [] c)):=jH (CT.out (wr.alloc (tyO k m r s fa fn fc)) (jB HCR.out.bel (belA bR)) (i+1) c (by omega) hc ⟨k,m,r,s,fa,fn,fc⟩ (y2.bel (belA bR)))
    have HLT:=jH hlt
    have hp512:Hid (pn≤512):=jH (by have:=HPN.out;have:=HHL.out;omega)
    have hii:(i:Int)<(pn:Int):=by omega
    have hi0:(0:Int)≤(i:Int):=by omega
    have hpb:(pn:Int)≤512:=by have:=hp512.out;omega
    clear y2 hc hlt hi5 eo
    go_wp2_with (first
     | (go_at_call 52;refine CC.out.mono ?_;rintro e w2 ⟨⟨k',m',r',s',fa',fn',fc'⟩,rfl,hN⟩;have HN:=jH hN;have hB2:U6.heap.size≤(w2.alloc (tyO k' m' r' s' fa' fn' fc')).heap.size:=by { have h1:=HCR.out.bel.size;have h2:=hN.bel.size;simp only [World.size_alloc] at h2 ⊢;omega };have HO2:Hid ((w2.alloc (tyO k' m' r' s' fa' fn' fc')).ownsRow U6.heap.size 46 5 (.slice aP i cP) i (tCells fl)):=jH (by { have h1:=own_bel HCR.out.row.row (jB (jB (belA bR) hN.bel) (belA bR (o:=(tyO k' m' r' s' fa' fn' fc'))));rw [HCR.out.len] at h1;exact h1 });clear hN z0 z1 z2 z3 z4 z5)
     | (at_builtin;refine wpList_append_lies _ rfl _ _ 32 rfl U6.heap.size 46 i46 (.agg #[.int .u8 0,.bool false,.int .i64 0,.int .i64 0,.slice none 0 0]) 5 48 Tryz.underlying32 hi46 hz46 hs46 hb46 rfl (by omega) (.slice aP i cP) i (tCells fl) rfl HO2.out ⟨w2.heap.size,0,none⟩ 1 1 (t5 ⟨k',m',r',s',fa',fn',fc'⟩) rfl rfl (c5_new (At.new _ _)) (t5_ones _) (by omega) (by have:=HLT.out;unfold maxLen;omega) (by have:=HLT.out;omega) hB2 _ rfl ?_;intro g c4 w4 hr4 hg4 hw4 hgl4;have HN4:=jH (HCR.out.next HN.out hr4 hg4 hw4);clear hr4 hg4 hw4))
    refine ⟨⟨i+1,_,_,_,_,_,HLT.out,rfl,rfl,by rw [HTK.out];exact HN4.out⟩,?_⟩
    show pn - ((i:Int)+1).toNat<pn - (i:Int).toNat
    have:=HLT.out
    omega
   ·obtain rfl:i=pn:=by omega
    have lt:¬ (i:Int)<(i:Int):=by omega
    clear hlt hi5
    obtain ⟨c0,hc0⟩:∃ c0,cl2[0]?=some c0:=⟨_,List.getElem?_eq_getElem (by have:=HPN.out;omega)⟩
    have HC0:=jH hc0
    obtain ⟨⟨k,m,r,s,fa,fn,fc⟩,y1,y2⟩:=HCW.out wr HCR.out.bel 0 c0 hc0
    have hC9:=(HH9.out.bel HCR.out.bel).cells
    obtain ⟨d0,d1,d2,d3,d4,d5,d6⟩:=hC9
    simp only [Nat.zero_add] at d0 d1 d2 d3 d4 d5 d6
    have hlW:b11<wr.heap.size:=(HH9.out.bel HCR.out.bel).1
    obtain ⟨z0,z1,z2,z3,z4,z5⟩:=y1
    simp only [Nat.zero_mul,Nat.add_zero] at z1 z2 z3 z4 z5
    have CC:=jH (CT.out wr HCR.out.bel 0 c0 (Nat.zero_le _) hc0 ⟨k,m,r,s,fa,fn,fc⟩ y2)
    have n0:(0:Int)<(ln2:Int):=by have:=HPN.out;omega
    clear y2 hc0
    go_wp2_with (go_at_call 52;refine CC.out.mono ?_;rintro e w2 ⟨⟨k',m',r',s',fa',fn',fc'⟩,rfl,hN⟩;have A7:=(B76.out.below HCR.out.bel).below hN.bel;have g0:=A7.tyF 0;have g1:=A7.tyF 1;have g2:=A7.tyF 2;have g3:=A7.tyF 3;have g4:=A7.tyF 4;obtain ⟨hl4,q0,q1,q2,q3,q4⟩:=A7.ty;simp only [Nat.zero_add] at q0 q1 q2 q3 q4)
    obtain ⟨F1,F2⟩:=new_store hN (jB HBW.out HCR.out.bel) (b:=w.heap.size+1+1) (by omega) (by have:=s7.out;have:=HCR.out.bel.size;omega) A7
    have hRow:=((HCR.out.row.bel hN.bel).but (but_s5 w2 (w.heap.size+1+1) ⟨k',m',r',s',fa',fn',fc'⟩) s7.out).low HBW.out.size
    exact bodyPost_ret (results_t3 (g:=⟨k',m',r',s',fa',fn',fc'⟩) Tryz.results23 rfl rfl rfl F1) rfl ⟨aP,cP,⟨k',m',r',s',fa',fn',fc'⟩,rfl,⟨fl,lo,hi,hRow⟩,c0,HC0.out,F2⟩
 case inl h =>
  obtain rfl:pn=0:=by have:=HPN.out;omega
  have lt:¬ ((0:Nat):Int)<((0:Nat):Int):=by omega
  go_loopw [6,47] (fun v z W=>∃ (aP:Option Addr) (cP:Nat) (fl:List Fv) (lo hi:Nat→Nat),z=.int .i64 0∧v=.slice aP 0 cP∧CR U6 W 0 aP cP [] fl lo hi) (fun _ z _=>1)
  case atStart=>exact ⟨none,0,[],id,id,rfl,rfl,FRow.nil _ _ _ _,Below.refl _ _,rfl⟩
  case round =>
   obtain ⟨aP,cP,fl,lo,hi,rfl,rfl,hCR⟩:=hrel
   have HCR:=jH hCR
   clear hCR e0 e1 e2 e3 e4 e5 e6
   obtain ⟨c0,hc0⟩:∃ c0,cl2[0]?=some c0:=⟨_,List.getElem?_eq_getElem (by have:=HPN.out;omega)⟩
   have HC0:=jH hc0
   obtain ⟨⟨k,m,r,s,fa,fn,fc⟩,y1,y2⟩:=HCW.out wr HCR.out.bel 0 c0 hc0
   have hC9:=(HH9.out.bel HCR.out.bel).cells
   obtain ⟨d0,d1,d2,d3,d4,d5,d6⟩:=hC9
   simp only [Nat.zero_add] at d0 d1 d2 d3 d4 d5 d6
   have hlW:b11<wr.heap.size:=(HH9.out.bel HCR.out.bel).1
   obtain ⟨z0,z1,z2,z3,z4,z5⟩:=y1
   simp only [Nat.zero_mul,Nat.add_zero] at z1 z2 z3 z4 z5
   have CC:=jH (CT.out wr HCR.out.bel 0 c0 (Nat.zero_le _) hc0 ⟨k,m,r,s,fa,fn,fc⟩ y2)
   have n0:(0:Int)<(ln2:Int):=by have:=HPN.out;omega
   clear y2 hc0
   go_wp2_with (go_at_call 52;refine CC.out.mono ?_;rintro e w2 ⟨⟨k',m',r',s',fa',fn',fc'⟩,rfl,hN⟩;have A7:=(B76.out.below HCR.out.bel).below hN.bel;have g0:=A7.tyF 0;have g1:=A7.tyF 1;have g2:=A7.tyF 2;have g3:=A7.tyF 3;have g4:=A7.tyF 4;obtain ⟨hl4,q0,q1,q2,q3,q4⟩:=A7.ty;simp only [Nat.zero_add] at q0 q1 q2 q3 q4)
   obtain ⟨F1,F2⟩:=new_store hN (jB HBW.out HCR.out.bel) (b:=w.heap.size+1+1) (by omega) (by have:=s7.out;have:=HCR.out.bel.size;omega) A7
   have hRow:=((HCR.out.row.bel hN.bel).but (but_s5 w2 (w.heap.size+1+1) ⟨k',m',r',s',fa',fn',fc'⟩) s7.out).low HBW.out.size
   exact bodyPost_ret (results_t3 (g:=⟨k',m',r',s',fa',fn',fc'⟩) Tryz.results23 rfl rfl rfl F1) rfl ⟨aP,cP,⟨k',m',r',s',fa',fn',fc'⟩,rfl,⟨fl,lo,hi,hRow⟩,c0,HC0.out,F2⟩
theorem Tryz.results91:Tryz.f91.results=#[.cell 2 62]:=rfl
theorem ownOperand_any (w:World) (k:Nat) (n xl:Int) (xa:Option Addr) (xn xcap:Nat) {p:List Int} (hP:PAt w ⟨xl,xa,xn,xcap⟩ p) (h8:xn≤1000) :
  Calls Tryz.prog 91 #[oV k n xl xa xn xcap] w fun e w'=>∃ (a':Option Addr) (cap':Nat),e=.returned (oV k n xl a' xn cap')∧w'.ownsRow w.heap.size 123 1 (.slice a' xn cap') xn (iCells p)∧Below w.heap.size w w':=by
 obtain ⟨V,hV⟩:∃ V,V=(w.alloc (oO k n xl xa xn xcap)).alloc (oO 0 0 0 none 0 0):=⟨_,rfl⟩
 have hB:Below w.heap.size w V:=by rw [hV];exact belA (belA bR)
 have A1:Hid (At V w.heap.size (oO k n xl xa xn xcap)):=jH (by rw [hV];exact (At.new _ _).alloc _)
 have A2:Hid (At V (w.heap.size+1) (oO 0 0 0 none 0 0)):=jH (by rw [hV];exact at_snd _ _ _)
 have hz:Hid (V.heap.size=w.heap.size+2):=jH (by rw [hV];simp only [World.size_alloc])
 have CO:=jH (ownPlace_any V xl xa xn xcap (hP.bel hB) h8)
 have HB:=jH hB
 have HV:=jH hV
 clear hP hV hB
 go_enter Tryz.func91,Tryz.ntmps91
 go_upto_region 1 with fail
 change Code.wp _ _ _ _ ((w.alloc (oO k n xl xa xn xcap)).alloc (oO 0 0 0 none 0 0))
 rw [← HV.out]
 clear HV
 obtain ⟨c0,c1,c2,c3⟩:=A1.out.ov
 go_upto_region 2 with (go_at_call 65;refine CO.out.mono ?_;rintro e w2 ⟨ya,yc,rfl,ho,hbw⟩;have HBW:=jH hbw;have B1:=jH (A1.out.below hbw);have B2:=jH (A2.out.below hbw);have HO2:=jH ho;have f2:=frozen_of_row w2 w.heap.size 2 _ _ B1.out;have f3:=frozen_of_row w2 w.heap.size 3 _ _ B1.out;have hl1:=B1.out.lt;clear c0 c1 c2 c3 ho hbw;obtain ⟨y0,y1,y2,y3⟩:=B1.out.ov)
 have hzz:=hz.out
 obtain ⟨X,hX⟩:∃ X,X=(w2.setCell ⟨w.heap.size,2,none⟩ (.int .i64 xl)).setCell ⟨w.heap.size,3,none⟩ (.slice ya xn yc):=⟨_,rfl⟩
 have C1:Hid (At X w.heap.size (oO k n xl ya xn yc)):=jH (by rw [hX];exact heap_setCell_same _ w.heap.size 3 _ 62 _ (heap_setCell_same w2 w.heap.size 2 _ 62 (.int .i64 xl) B1.out))
 have hBX:But w.heap.size w2 X:=by rw [hX];exact (But.set (But.refl _ _) 2 _).set 3 _
 have C2:Hid (At X (w.heap.size+1) (oO 0 0 0 none 0 0)):=jH (B2.out.but hBX (by omega))
 have CO2:Hid (X.ownsRow V.heap.size 123 1 (.slice ya xn yc) xn (iCells p)):=jH (own_grow HO2.out hBX (fun g9 hg9 e=>by have:=own_lo HO2.out g9 hg9;have:=Option.some.inj e;omega))
 have CB:Hid (Below w.heap.size w X):=jH ((jB HB.out HBW.out).grown hBX (by have:=HB.out.size;have:=HBW.out.size;omega) (fun k e=>by cases e;omega))
 rw [← hX]
 clear hX y0 y1 y2 y3 f2 f3 hl1 B1 B2 HO2 HBW A1 A2 hBX
 obtain ⟨y0,y1,y2,y3⟩:=C1.out.ov
 obtain ⟨z0,z1,z2,z3⟩:=C2.out.ov
 have f0:=frozen_of_row X (w.heap.size+1) 0 _ _ C2.out
 have f1:=frozen_of_row X (w.heap.size+1) 1 _ _ C2.out
 have f2:=frozen_of_row X (w.heap.size+1) 2 _ _ C2.out
 have f3:=frozen_of_row X (w.heap.size+1) 3 _ _ C2.out
 have hl1:=C1.out.lt
 have hl2:=C2.out.lt
 obtain ⟨Y,hY⟩:∃ Y,Y=(((X.setCell ⟨w.heap.size+1,0,none⟩ (.int .u8 (k:Int))).setCell ⟨w.heap.size+1,1,none⟩ (.int .i64 n)).setCell ⟨w.heap.size+1,2,none⟩ (.int .i64 xl)).setCell ⟨w.heap.size+1,3,none⟩ (.slice ya xn yc):=⟨_,rfl⟩
 have hBY:But (w.heap.size+1) X Y:=by rw [hY];exact (((But.set (But.refl _ _) 0 _).set 1 _).set 2 _).set 3 _
 have F1:Hid (At Y (w.heap.size+1) (oO k n xl ya xn yc)):=jH (by rw [hY];exact heap_setCell_same _ _ 3 _ 62 _ (heap_setCell_same _ _ 2 _ 62 (.int .i64 xl) (heap_setCell_same _ _ 1 _ 62 (.int .i64 n) (heap_setCell_same X _ 0 _ 62 (.int .u8 (k:Int)) C2.out))))
 have F2:Hid (Y.ownsRow w.heap.size 123 1 (.slice ya xn yc) xn (iCells p)):=jH (own_low (own_grow CO2.out hBY (fun g9 hg9 e=>by have:=own_lo CO2.out g9 hg9;have:=Option.some.inj e;omega)) (by omega))
 have F3:Hid (Below w.heap.size w Y):=jH (CB.out.grown hBY (by have:=CB.out.size;omega) (fun k e=>by cases e;omega))
 go_wp2_with fail
 rw [hY] at F1 F2 F3
 exact bodyPost_ret (results_o1 Tryz.results91 rfl F1.out) rfl ⟨ya,yc,rfl,F2.out,F3.out⟩
theorem PAt.grown {W W':World} {r:Option Nat} {x:Pt} {p:List Int} (h:PAt W x p) (k:W.grownBy W' r) (hn:∀ g off,x.a=some ⟨g,off,none⟩→r≠some g):PAt W' x p:=by
 refine ⟨⟨h.row.len,h.row.le,h.row.big,fun hne=>?_,h.row.rng,h.row.nil⟩,h.l0,h.l1⟩
 obtain ⟨g,off,e,hg,hc⟩:=h.row.cells hne
 exact ⟨g,off,e,Nat.lt_of_lt_of_le hg k.size,fun i v hv=>(cell_heap (k.block g hg (fun e2=>hn g off e e2.symm)) _).trans (hc i v hv)⟩
theorem OAt.grown {W W':World} {r:Option Nat} {v:Ov} {q:Opd} (h:OAt W v q) (k:W.grownBy W' r) (hn:∀ g off,v.x.a=some ⟨g,off,none⟩→r≠some g):OAt W' v q:=⟨h.k,h.n,h.l,h.p.grown k hn⟩
structure OR (w W:World) (i:Nat) (aP:Option Addr) (cP:Nat) (vs:List Ov) (os:List Opd):Prop where
 row:W.ownsRow w.heap.size 62 4 (.slice aP i cP) i (oCells vs)
 len:vs.length=i
 el:∀ (k:Nat) (v:Ov) (o:Opd),vs[k]?=some v→os[k]?=some o→OAt W v o∧∀ g off,v.x.a=some ⟨g,off,none⟩→g<W.heap.size∧(Value.slice aP i cP).ownBlock≠some g
 bel:Below w.heap.size w W
theorem OR.next {w W w2 w4:World} {i:Nat} {aP:Option Addr} {cP:Nat} {vs:List Ov} {os:List Opd} (h:OR w W i aP cP vs os) {o:Obj} {k:Nat} {n l:Int} {ya:Option Addr} {yn yc:Nat} {q:Opd} (hq:os[i]?=some q) (hk:k=q.k) (hn:n=q.n) (hl:l=q.pl.l) (hl0:-9223372036854775808≤l) (hl1:l≤9223372036854775807) (hr0:∀ x∈q.pl.p,-9223372036854775808≤x∧x≤9223372036854775807) (hyn:yn=q.pl.p.length)
  (hO:w2.ownsRow (W.alloc o).heap.size 123 1 (.slice ya yn yc) yn (iCells q.pl.p)) (hB:Below (W.alloc o).heap.size (W.alloc o) w2) {g c2:Nat} (hr:w4.ownsRow w.heap.size 62 4 (.slice (some ⟨g,0,none⟩) (i+1) c2) (i+1) (oCells vs++o4 ⟨k,n,⟨l,ya,yn,yc⟩⟩)) (hg:(w2.alloc (oO k n l ya yn yc)).grownBy w4 (Value.slice aP i cP).ownBlock) (hw:(Value.slice aP i cP).ownBlock=some g∨g=(w2.alloc (oO k n l ya yn yc)).heap.size) :
  OR w w4 (i+1) (some ⟨g,0,none⟩) c2 (vs++[⟨k,n,⟨l,ya,yn,yc⟩⟩]) os:=by
 have hz1:(W.alloc o).heap.size=W.heap.size+1:=by simp
 have hz2:(w2.alloc (oO k n l ya yn yc)).heap.size=w2.heap.size+1:=by simp
 have hs2:=hB.size
 have hsw:=h.bel.size
 have hlo:∀ b,(Value.slice aP i cP).ownBlock=some b→w.heap.size≤b∧b<W.heap.size:=fun b e=>⟨own_lo h.row b e,(h.row.lt b e).2⟩
 have hB3:Below W.heap.size W (w2.alloc (oO k n l ya yn yc)):=jB (belA bR) (belA hB)
 have hs4:=hg.size
 refine ⟨by rw [oCells_snoc];exact hr,by simp [h.len],fun j v p hv hp=>?_,(jB h.bel hB3).grown hg (by omega) (fun k e=>(hlo k e).1)⟩
 by_cases e:j=i
 ·subst e
  rw [List.getElem?_append_right (by rw [h.len];exact Nat.le_refl _),h.len,Nat.sub_self] at hv
  simp at hv
  subst hv
  rw [hq] at hp
  cases hp
  have hfr:∀ g' off,ya=some ⟨g',off,none⟩→W.heap.size+1≤g'∧g'<w2.heap.size:=fun g' off e=>by
   subst e
   have h1:=own_lo hO g' rfl
   have h2:=(hO.lt g' rfl).2
   omega
  refine ⟨OAt.grown (r:=(Value.slice aP j cP).ownBlock) ⟨hk,hn,hl,⟨(own_read hO hr0 hyn).bel (belA bR),hl0,hl1⟩⟩ hg (fun g' off e e2=>?_),fun g' off e=>⟨?_,fun e2=>?_⟩⟩
  ·have:=hfr g' off e;have:=hlo g' e2;omega
  ·have:=hfr g' off e;omega
  ·have h1:=hfr g' off e
   simp only [Value.ownBlock,Option.some.injEq] at e2
   subst e2
   rcases hw with e|e
   ·have:=hlo _ e;omega
   ·omega
 ·have hjl:j<vs.length:=by
   have:=(List.getElem?_eq_some_iff.1 hv).1
   rw [List.length_append] at this
   simp at this
   have:=h.len
   omega
  rw [List.getElem?_append_left hjl] at hv
  obtain ⟨e1,e2⟩:=h.el j v p hv hp
  refine ⟨(e1.bel hB3).grown hg (fun g' off e=>(e2 g' off e).2),fun g' off e=>⟨by have:=(e2 g' off e).1;omega,fun e3=>?_⟩⟩
  simp only [Value.ownBlock,Option.some.injEq] at e3
  subst e3
  rcases hw with e4|e4
  ·exact (e2 _ off e).2 e4
  ·have:=(e2 _ off e).1;omega
theorem each90_any (w:World) (a:Option Addr) (n cap:Nat) {os:List Opd} (hO:OL w a n cap os) (h8:∀ o∈os,o.pl.p.length≤1000) :
  Calls Tryz.prog 90 #[.slice a n cap,.func (.func 91) #[] #[]] w fun e w'=>∃ (a':Option Addr) (cap':Nat),e=.returned (.slice a' n cap')∧OL w' a' n cap' os∧Below w.heap.size w w':=by
 have HO:=jH hO
 have H8:=jH h8
 have HLN:Hid (n=os.length):=jH hO.len
 have HBG:Hid (n≤1100000):=jH hO.big
 obtain ⟨i62,hi62,hz62,hs62,hb62⟩:=info_parts Tryz.info62
 clear hO h8
 go_enter Tryz.func90,Tryz.ntmps90
 go_wp2_with fail
 go_loopw [5,10] (fun v z W=>∃ (i:Nat) (aP:Option Addr) (cP:Nat) (vs:List Ov),i≤n∧z=.int .i64 (i:Int)∧v=.slice aP i cP∧OR w W i aP cP vs os) (fun _ z _=>n - (intOf z).toNat)
 case atStart=>exact ⟨0,none,0,[],Nat.zero_le _,rfl,rfl,World.ownsRow_nil _ _ _ _,rfl,fun k v o h=>by simp at h,Below.refl _ _⟩
 case round =>
  obtain ⟨i,aP,cP,vs,hi5,rfl,rfl,hOR⟩:=hrel
  have HOR:=jH hOR
  clear hOR
  by_cases hlt:i<n
  ·obtain ⟨q,hq⟩:∃ q,os[i]?=some q:=⟨_,List.getElem?_eq_getElem (by have:=HLN.out;omega)⟩
   obtain ⟨g,off,⟨k,nn,l,pa,m,pc⟩,ea,hgl,⟨c0,c1,c2,c3⟩,hOA⟩:=HO.out.one hq
   subst ea
   have HOA:=jH hOA
   have hc8:m≤1000:=by have h1:=hOA.p.row.len;have h2:=H8.out q (List.mem_of_getElem? hq);have h3:m=q.pl.p.length:=h1;omega
   have hgw:g<wr.heap.size:=Nat.lt_of_lt_of_le hgl HOR.out.bel.size
   have y0:=(HOR.out.bel.cell (p:=⟨g,off+i*4,none⟩) hgl).trans c0
   have y1:=(HOR.out.bel.cell (p:=⟨g,off+i*4+1,none⟩) hgl).trans c1
   have y2:=(HOR.out.bel.cell (p:=⟨g,off+i*4+2,none⟩) hgl).trans c2
   have y3:=(HOR.out.bel.cell (p:=⟨g,off+i*4+3,none⟩) hgl).trans c3
   have CC:=jH (ownOperand_any (wr.alloc (oO k nn l pa m pc)) k nn l pa m pc (hOA.p.bel (jB HOR.out.bel (belA bR))) hc8)
   have HQ:=jH hq
   have HLT:=jH hlt
   have hn5:(n:Int)≤1100000:=by have:=HBG.out;omega
   have hii:(i:Int)<(n:Int):=by omega
   have hi0:(0:Int)≤(i:Int):=by omega
   clear c0 c1 c2 c3 hOA hq hlt hi5 hgl hc8
   go_wp2_with (first
    | (go_at_call 91;refine CC.out.mono ?_;rintro e w2 ⟨ya,yc,rfl,hO2,hB2⟩;have HO2:=jH hO2;have HB2:=jH hB2;have hbs:w.heap.size≤(w2.alloc (oO k nn l ya m yc)).heap.size:=by { have h1:=HOR.out.bel.size;have h2:=hB2.size;simp only [World.size_alloc] at h2 ⊢;omega };have HR2:=jH (own_bel HOR.out.row (jB (jB (belA bR) hB2) (belA bR (o:=oO k nn l ya m yc))));clear hO2 hB2 y0 y1 y2 y3)
    | (at_builtin;refine wpList_append_lies _ rfl _ _ 63 rfl w.heap.size 62 i62 (.agg #[.int .u8 0,.int .i64 0,.int .i64 0,.slice none 0 0]) 4 48 Tryz.underlying63 hi62 hz62 hs62 hb62 rfl (by omega) (.slice aP i cP) i (oCells vs) rfl HR2.out ⟨w2.heap.size,0,none⟩ 1 1 (o4 ⟨k,nn,⟨l,ya,m,yc⟩⟩) rfl rfl (c4_new (At.new _ _)) (c4_ones _) (by omega) (by have:=HLT.out;have:=HBG.out;unfold maxLen;omega) (by have:=HLT.out;have:=HBG.out;omega) hbs _ rfl ?_;intro g9 c9 w4 hr4 hg4 hw4 hgl4;have HN4:=jH (HOR.out.next HQ.out HOA.out.k HOA.out.n HOA.out.l HOA.out.p.l0 HOA.out.p.l1 HOA.out.p.row.rng HOA.out.p.row.len HO2.out HB2.out hr4 hg4 hw4);clear hr4 hg4 hw4))
   refine ⟨⟨i+1,_,_,_,HLT.out,rfl,rfl,HN4.out⟩,?_⟩
   show n - ((i:Int)+1).toNat<n - (i:Int).toNat
   have:=HLT.out
   omega
  ·obtain rfl:i=n:=by omega
   have lt:¬ (i:Int)<(i:Int):=by omega
   clear hlt hi5
   go_wp2_with fail
   go_ret
   exact ⟨aP,cP,rfl,ol_of_row HOR.out.row HLN.out (by rw [HOR.out.len];exact HLN.out) HBG.out (fun k v o h1 h2=>(HOR.out.el k v o h1 h2).1),HOR.out.bel⟩
theorem ownOperands_any (w:World) (a:Option Addr) (n cap:Nat) {os:List Opd} (hO:OL w a n cap os) (h8:∀ o∈os,o.pl.p.length≤1000) :
  Calls Tryz.prog 68 #[.slice a n cap] w fun e w'=>∃ (a':Option Addr) (cap':Nat),e=.returned (.slice a' n cap')∧OL w' a' n cap' os∧Below w.heap.size w w':=by
 have CC:=jH (each90_any w a n cap hO h8)
 clear hO h8
 go_enter Tryz.func68,Tryz.ntmps68
 go_wp2_with (go_at_call 90;refine CC.out.mono ?_;rintro e w2 ⟨ya,yc,rfl,hO2,hB2⟩;have HO2:=jH hO2;have HB2:=jH hB2;clear hO2 hB2)
 go_ret
 exact ⟨ya,yc,rfl,HO2.out,HB2.out⟩
end Go.Proofs.YtdlggpcakaofoaaGreat
