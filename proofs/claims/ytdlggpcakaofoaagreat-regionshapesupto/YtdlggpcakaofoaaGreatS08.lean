import Derived.Test.YtdlggpcakaofoaaGreatS07
namespace Go.Proofs.YtdlggpcakaofoaaGreat
open Go.RowKit Go.Shelf
set_option linter.unusedVariables false
set_option linter.unusedSimpArgs false
set_option maxHeartbeats 4000000
theorem num_rg2 {fr:Int} {lv:Int} (h0:0≤fr) (h1:fr≤100000) (hl:lv≤8):∀ (c:Ch) (l:List Int),c.ok 32→l.length+c.regs.length≤1000→(∀ q∈c.regs,q<lv)→(turnC (outN fr) l c).rg
 | .leaf k s,l,h,_,_=>by
  rcases h with ⟨h,h'⟩|⟨h,h',h''⟩
  ·exact ⟨by rcases h with h|h <;> omega,by omega,by omega⟩
  ·exact ⟨by omega,by omega,by omega⟩
 | .box c,l,h,h2,h3=>num_rg2 h0 h1 hl c l h h2 h3
 | .ref m r c,l,h,h2,h3=>by
  simp only [Ch.regs,List.length_cons] at h2
  have hn:=negs_le l
  have hr:=h3 r (by simp [Ch.regs])
  have h5:=h.1
  refine ⟨?_,num_rg2 h0 h1 hl c _ h.2 (by simp only [List.length_append,List.length_cons,List.length_nil];omega) (fun q hq=>h3 q (by simp [Ch.regs,hq]))⟩
  unfold outN
  split <;> omega
theorem unAt_bel {w W:World} {ua:Option Addr} {un:Nat} {gs:List Grp} (hU:UnAt w ua un gs) (hW:Below w.heap.size w W):UnAt W ua un gs:=⟨hU.len,fun j g hg=>by
 obtain ⟨ug,uo,nm,lv,oa,on,oc,pa,la,ln,lc,na,nn,nc,qa,qn,qc,ea,hC7,hG⟩:=hU.at_ j g hg
 exact ⟨ug,uo,nm,lv,oa,on,oc,pa,la,ln,lc,na,nn,nc,qa,qn,qc,ea,hC7.bel hW,hG.lv,hG.pa,hG.ou.bel hW,hG.lo.bel hW,hG.lc,hG.ns,hG.pt.bel hW⟩⟩
theorem tyAt_rg {w:World}:∀ (c:Ch) (f:Fv),TyAt w f c.ty→c.rg
 | .leaf k s,f,h=>by obtain ⟨a,cap,-,h1,h2,h3⟩:=h.leaf;exact ⟨h1,h2,h3⟩
 | .box c,f,h=>by obtain ⟨g,off,cap,f',-,-,h1⟩:=h.box;exact tyAt_rg c f' h1
 | .ref m r c,f,h=>by obtain ⟨g,off,cap,f',-,-,h1,h2,h3⟩:=h.ref;exact ⟨⟨h2,h3⟩,tyAt_rg c f' h1⟩
theorem way_all {fc:Nat→List Ch} {P:Ch→Prop} (hbox:∀ c,P (.box c)→P c) (href:∀ m r c,P (.ref m r c)→P c) (hF:∀ j,∀ c∈fc j,P c):∀ (p:List Int) (c d:Ch) (gs:List Int),P c→wayC fc c p=some (d,gs)→P d
 | [],c,d,gs,h,e=>by cases e;exact h
 | s::p,c,d,gs,h,e=>by
  rw [wayC,Option.bind_eq_some_iff] at e
  obtain ⟨⟨c1,g1⟩,h1,h2⟩:=e
  obtain ⟨⟨d2,g2⟩,h3,h4⟩:=Option.map_eq_some_iff.1 h2
  cases h4
  refine way_all hbox href hF p c1 _ g2 ?_ h3
  cases c with
  | leaf k sn =>
   rw [stepC_leaf] at h1
   split at h1
   ·obtain ⟨y,hy,e3⟩:=Option.map_eq_some_iff.1 h1
    cases e3
    exact hF _ _ (List.mem_of_getElem? hy)
   ·cases h1
  | box c =>
   rw [stepC_box] at h1
   split at h1
   ·cases h1;exact hbox _ h
   ·cases h1
  | ref m r c =>
   rw [stepC_ref] at h1
   split at h1
   ·cases h1;exact href _ _ _ h
   ·cases h1
structure Fok (n:Nat) (fc:Nat→List Ch):Prop where
 ok:∀ j,∀ c∈fc j,c.ok n∧Ok c∧c.rg
theorem Fok.way {n:Nat} {fc:Nat→List Ch} (h:Fok n fc) {p:List Int} {c d:Ch} {gs:List Int} (h1:c.ok n) (h2:Ok c) (h3:c.rg) (hw:wayC fc c p=some (d,gs)):d.ok n∧Ok d∧d.rg :=
 way_all (P:=fun c=>c.ok n∧Ok c∧c.rg) (fun c k=>⟨k.1,k.2.1.inBox,k.2.2⟩) (fun m r c k=>⟨k.1.2,k.2.1.inRef,k.2.2.2⟩) h.ok p c d gs ⟨h1,h2,h3⟩ hw
structure Lok (n:Nat) (lv:Int) (cl:List Ch):Prop where
 ok:∀ c∈cl,c.ok n∧Ok c∧c.rg
 reg:∀ c∈cl,∀ q∈c.regs,q<lv
 lv0:0≤lv
 lv8:lv≤8
 top:cntL lv cl≤100000
 n32:n≤32
 len:∀ c∈cl,c.regs.length≤1000
theorem Lok.num {n:Nat} {lv:Int} {cl:List Ch} (h:Lok n lv cl) {l:Nat} {c0:Ch} (hc:cl[l]?=some c0):∃ fr,(numR lv cl)[l]?=some (numC fr c0)∧(numC fr c0).ok n∧Ok (numC fr c0)∧(numC fr c0).rg:=by
 have hm:=List.mem_of_getElem? hc
 obtain ⟨k1,k2,k3⟩:=h.ok c0 hm
 obtain ⟨m1,m2⟩:=cntL_mono cl l lv
 have l0:=h.lv0
 have lt:=h.top
 refine ⟨_,numR_at cl lv l c0 hc,(num_ok n _ (by omega) c0 [] k1).1,num_Ok (by omega) k2,num_rg2 (lv:=lv) (by omega) (by omega) h.lv8 c0 [] k2.ok (by have:=h.len c0 hm;simp only [List.length_nil];omega) (h.reg c0 hm)⟩
theorem place_facts {n:Nat} {fc:Nat→List Ch} {lv:Int} {cl:List Ch} (hF:Fok n fc) (hL:Lok n lv cl) {pl:Plc} {d0:Ch} {gv:List Int} (hw:wayP fc cl pl.l pl.p=some (d0,gv)) :
  ∃ (l:Nat) (c d:Ch),pl.l=(l:Int)∧(numR lv cl)[l]?=some c∧c.ok n∧c.rg∧pl.p.length≤8∧wayC fc c pl.p=some (d,gv)∧Ok d∧d.rg∧alikeB d d0=true∧Ok d0∧d0.rg:=by
 unfold wayP at hw
 split at hw
 ·rename_i hl
  rw [Option.bind_eq_some_iff] at hw
  obtain ⟨c0,hc0,hw⟩:=hw
  obtain ⟨k1,k2,k3⟩:=hL.ok c0 (List.mem_of_getElem? hc0)
  obtain ⟨fr,n1,n2,n3,n4⟩:=hL.num hc0
  obtain ⟨e1,e2,e3⟩:=hF.way k1 k2 k3 hw
  obtain ⟨d',h1,h2⟩:=way_turn fc (outN fr) pl.p c0 [] d0 gv hw
  obtain ⟨f1,f2,f3⟩:=hF.way n2 n3 n4 h1
  refine ⟨pl.l.toNat,numC fr c0,d',by omega,n1,n2,n4,hl.2,h1,f2,f3,?_,e2,e3⟩
  rcases h2 with rfl|⟨l',rfl⟩
  ·exact alike_trans _ _ _ (alike_turn (outN fr) d' []) (by rw [alike_sym];exact alike_turn (outN fr) d' []) |> fun _=>by
    have:=alike_trans d' (turnC (outN fr) [] d') d' (turn_alike (outN fr) d' []) (alike_turn (outN fr) d' [])
    exact this
  ·exact alike_turn (outN fr) d0 l'
 ·cases hw
theorem regs_depth:∀ c:Ch,c.regs.length+1≤c.depth
 | .leaf _ _=>Nat.le_refl _
 | .box c=>by have:=regs_depth c;simp only [Ch.regs,Ch.depth];omega
 | .ref _ _ c=>by have:=regs_depth c;simp only [Ch.regs,Ch.depth,List.length_cons];omega
structure UFs (w:World) (a ua:Option Addr) (n cap un:Nat) (mn:Int) (ss:List (List Ty)) (gs:List Grp) (fc:Nat→List Ch) (hs:List (Nat × List Ch)) (xs:List (Sc × List Pnt)):Prop where
 xi:XsIs ss n mn gs fc hs xs
 ug:UG w a n cap ua un (dU ss n) xs
 pt:∀ (j:Nat) (x:Sc) (ps:List Pnt),xs[j]?=some (x,ps)→∀ p∈ps,x.ptB p=true
theorem ufs_of {w:World} {a ua:Option Addr} {n cap un:Nat} {mn:Int} {ss:List (List Ty)} (hSt:StAt w a n cap ss) {b1 b2 b3:Nat→Bool} (hb:Flt ss b1 b2 b3) {gs:List Grp} (hU:UnAt w ua un gs) (hok:UOk ss n (decide ((stRes n b1 b2 b3).2=0)) un mn gs):∃ fc hs xs,UFs w a ua n cap un mn ss gs fc hs xs:=by
 have hu:=hok.un
 unfold unitB at hu
 simp only [Bool.and_eq_true,decide_eq_true_iff] at hu
 obtain ⟨fc,hs,xs,hX,hG⟩:=xs_ex hSt hb hu.1.1.1 hU hu.1.1.2 hok.hd
 obtain ⟨fc',hs',xs',hX',hP⟩:=hok.pt
 rw [← hX.uniq hX'] at hP
 exact ⟨fc,hs,xs,hX,hG,hP⟩
theorem UFs.one {w:World} {a ua:Option Addr} {n cap un:Nat} {mn:Int} {ss:List (List Ty)} {gs:List Grp} {fc:Nat→List Ch} {hs:List (Nat × List Ch)} {xs:List (Sc × List Pnt)} (h:UFs w a ua n cap un mn ss gs fc hs xs) {j:Nat} {g:Grp} (hg:gs[j]?=some g) :
  ∃ cl,HdOk n (isMn mn j) g cl∧hs[j]?=some (g.pa.toNat,cl)∧SF w a n cap fc∧(∀ p∈g.pt,(Sc.mk fc cl (dU ss n) hs g.pt.length).ptB p=true)∧Fok n fc∧n≤32∧(∀ c∈cl,c.ok n∧Ok c∧c.rg)∧∃ la ln lc,LcAt w la ln lc (cl.map Ch.ty):=by
 obtain ⟨cl,h1,h2,h3⟩:=h.xi.at_ j g hg
 obtain ⟨ug,uo,nm,lv,oa,on,oc,pa,la,ln,lc,na,nn,nc,qa,qn,qc,ea,hC7,hS,hUF,-,-,hP,hq⟩:=h.ug.at_ j _ _ h3
 have hSF:SF w a n cap fc:=hS.sf
 have hrg:∀ j,j<n→∀ c∈fc j,c.rg:=fun j hj c hc=>by
  obtain ⟨g,off,fa,fcap,-,-,-,hF⟩:=hSF.st j hj
  obtain ⟨k,hk⟩:=List.getElem?_of_mem hc
  obtain ⟨g',off',-,hat⟩:=hF.2 (by intro e;have h9:fc j=[]:=(by simpa using e);rw [h9] at hc;simp at hc)
  obtain ⟨V,nm,-,-,hT⟩:=hat k c.ty (by rw [List.getElem?_map,hk];rfl)
  exact tyAt_rg c V hT
 refine ⟨cl,h1,h2,hSF,h.pt j _ _ h3,⟨fun j c hc=>?_⟩,hSF.le,fun c hc=>?_,la,ln,lc,hS.lf.at_⟩
 ·by_cases hj:j<n
  ·obtain ⟨k1,k2⟩:=h.xi.hfc.ok j hj c hc
   exact ⟨k1,k2,hrg j hj c hc⟩
  ·rw [h.xi.hfc.ge j (by omega)] at hc
   simp at hc
 ·obtain ⟨k1,k2⟩:=h1.ok c hc
  obtain ⟨k,hk⟩:=List.getElem?_of_mem hc
  obtain ⟨g',off',-,hat⟩:=hS.lf.at_.cells (by intro e;have h9:cl=[]:=(by simpa using e);rw [h9] at hc;simp at hc)
  obtain ⟨V,-,hT⟩:=hat k c.ty (by rw [List.getElem?_map,hk];rfl)
  exact ⟨k1,k2,tyAt_rg c V hT⟩
theorem lok_of {n:Nat} {m:Bool} {g:Grp} {cl:List Ch} (h:HdOk n m g cl) (h2:∀ c∈cl,c.ok n∧Ok c∧c.rg) (hn:n≤32) (ht:cntL g.lv cl≤100000):Lok n g.lv cl:=by
 obtain ⟨c1,c2,c3,c4,c5,c6,c7,c8,c9⟩:=cnt_parts h.cnt
 refine ⟨h2,fun c hc q hq=>?_,c1,c2,ht,hn,fun c hc=>?_⟩
 ·obtain ⟨k,hk⟩:=List.getElem?_of_mem hc
  exact (h.reg k c hk q hq).1
 ·have h3:=regs_depth c
  have h4:=(h2 c hc).2.1.deep
  omega
theorem cx_at {w:World} {a:Option Addr} {n cap:Nat} {ss:List (List Ty)} (hSt:StAt w a n cap ss) {b1 b2 b3:Nat→Bool} (hb:Flt ss b1 b2 b3) (hso:(stRes n b1 b2 b3).2=0) {fc:Nat→List Ch} (hSF:SF w a n cap fc) {cl:List Ch} (hcl:∀ c∈cl,c.ok n∧Ok c∧c.rg) :
  ∀ W,Below w.heap.size w W→∀ la ln lc,LcAt W la ln lc (cl.map Ch.ty)→Cx W a la n cap ln lc true fc cl:=fun W hW la ln lc hL=>by
 obtain ⟨fc',cl',hC,hI⟩:=cx_of (hSt.bel hW) hL hb
 have ho:mayL n (decide ((stRes n b1 b2 b3).2=0)) (cl.map Ch.ty)=true:=mayL_iff.2 ⟨decide_eq_true hso,fun t ht=>by
  obtain ⟨c,hc,rfl⟩:=List.mem_map.1 ht
  obtain ⟨k1,k2,-⟩:=hcl c hc
  exact ch_mayB k1 k2.deep⟩
 rw [ho] at hC
 obtain ⟨e1,-⟩:=hI ho
 have e2:cl=cl':=map_ty_inj e1
 subst e2
 exact ⟨hC.all,fun _=>hSF.bel hW,hC.lf⟩
theorem alike_depth:∀ (c d:Ch),alikeB c d=true→c.depth=d.depth
 | .leaf _ _,.leaf _ _,_=>rfl
 | .box c,.box d,h=>by simp only [Ch.depth,alike_depth c d h]
 | .ref m _ c,.ref m' _ d,h=>by
  simp only [alikeB,Bool.and_eq_true] at h
  simp only [Ch.depth,alike_depth c d h.2]
 | .leaf _ _,.box _,h=>by cases h
 | .leaf _ _,.ref _ _ _,h=>by cases h
 | .box _,.leaf _ _,h=>by cases h
 | .box _,.ref _ _ _,h=>by cases h
 | .ref _ _ _,.leaf _ _,h=>by cases h
 | .ref _ _ _,.box _,h=>by cases h
theorem era_ok:∀ (c:Ch) (l:List Int),Ok c→c.rg→Ok (turnC (fun _ _=>-1) l c)∧(turnC (fun _ _=>-1) l c).rg∧(turnC (fun _ _=>-1) l c).depth=c.depth
 | .leaf k s,l,h,h2=>⟨h,h2,rfl⟩
 | .box c,l,h,h2=>by
  obtain ⟨k1,k2,k3⟩:=era_ok c l h.inBox h2
  exact ⟨⟨k1.ok,by have:=h.deep;simp only [turnC,Ch.depth] at this ⊢;omega⟩,k2,by simp only [turnC,Ch.depth];omega⟩
 | .ref m r c,l,h,h2=>by
  obtain ⟨k1,k2,k3⟩:=era_ok c (l++[r]) h.inRef h2.2
  exact ⟨⟨⟨Int.le_refl _,k1.ok⟩,by have:=h.deep;simp only [turnC,Ch.depth] at this ⊢;omega⟩,⟨⟨by show (-9223372036854775808:Int)≤-1;omega,by show (-1:Int)≤9223372036854775807;omega⟩,k2⟩,by simp only [turnC,Ch.depth];omega⟩
structure PtCx (w:World) (a ua:Option Addr) (n cap un ucap:Nat) (mn:Int) (gs:List Grp) (j:Nat) (g:Grp) (cl:List Ch) (fc:Nat→List Ch) (x:Sc) (q:Nat) (p:Pnt):Prop where
 ug:UG1 w a ua n cap un ucap mn gs j g cl (fun _=>[])
 cx:∀ W,Below w.heap.size w W→∀ la ln lc,LcAt W la ln lc (cl.map Ch.ty)→Cx W a la n cap ln lc true fc cl
 sf:SF w a n cap fc
 fo:Fok n fc
 hp:g.pt[q]?=some p
 pt:x.ptB p=true
 xf:x.fc=fc
 xc:x.cl=cl
theorem shapes_pt {w:World} {a ua:Option Addr} {n cap un ucap:Nat} {mn:Int} {gs:List Grp} {j:Nat} {g:Grp} {cl:List Ch} {fc:Nat→List Ch} {x:Sc} {q:Nat} {p:Pnt} (h:PtCx w a ua n cap un ucap mn gs j g cl fc x q p) (hc:cntP gs (cntL g.lv cl) g.pt≤512) (hl:Lok n g.lv cl) (h7:p.op≠7)
  (hF:∀ W,Below w.heap.size w W→Calls Tryz.prog 8 #[uV a n cap ua un ucap mn] W fun e w'=>e=.returned (.bool true)∧Below W.heap.size W w') (hbit:(fldO p.op).testBit 0=true) :
  Calls Tryz.prog 7 #[uV a n cap ua un ucap mn,.int .i64 (j:Int),.int .i64 (q:Int)] w fun e w'=>e=.returned (.bool true)∧Below w.heap.size w w':=by
 obtain ⟨pv,hpv,h63⟩:=pointOf_yes h.ug h.hp
 obtain ⟨d0,gv,hway,-⟩:=ptB_to h.pt hbit
 have hway0:=hway
 unfold Sc.way at hway
 rw [h.xf,h.xc] at hway
 obtain ⟨l,c,d,el,hcl,hok,hrg,hp8,hw,hOd,hdr,hal,hOd0,hd0r⟩:=place_facts h.fo hl hway
 obtain ⟨tl,ta,tn,tc,htp⟩:∃ tl ta tn tc,pv.tp=⟨tl,ta,tn,tc⟩:=⟨_,_,_,_,rfl⟩
 have htl:tl=(l:Int):=by have:=hpv.tl;rw [htp,el] at this;exact this
 subst htl
 have hPA:PAt w ⟨(l:Int),ta,tn,tc⟩ p.to.p:=by have:=hpv.tp;rw [htp] at this;exact this
 rw [el] at hway
 have hA:∀ W,Below w.heap.size w W→Calls Tryz.prog 35 #[uV a n cap ua un ucap mn,.int .i64 (j:Int),.int .i64 (q:Int)] W fun e w'=>∃ (a':Option Addr) (cap':Nat),e=.returned (.tuple #[plV (l:Int) a' tn cap',.bool true,.int .i64 0])∧PAt w' ⟨(l:Int),a',tn,cap'⟩ p.to.p∧Below W.heap.size W w':=fun W hW=>Assigns_yes W a ua n cap un ucap mn (j:Int) (q:Int) pv p.op hpv.op hbit htp (hPA.bel hW) (by omega) (fun V hV=>h63 V (jB hW hV))
 obtain ⟨x1,x2,-⟩:=era_ok d [] hOd hdr
 have hP:∀ W (xa:Option Addr) (xc:Nat),Below w.heap.size w W→PAt W ⟨(l:Int),xa,tn,xc⟩ p.to.p→Calls Tryz.prog 17 #[uV a n cap ua un ucap mn,.int .i64 (j:Int),plV (l:Int) xa tn xc] W fun e w'=>∃ f':Fv,e=.returned (.tuple #[f'.v,.int .i64 0])∧New W w' f' d:=fun W xa xc hW hp=>Place_yes (h.ug.bel hW) (fun V hV=>h.cx V (jB hW hV)) (h.sf.bel hW) hc hcl hok hrg xa tn xc hp hp8 (by unfold wyX;rw [if_pos rfl];exact hway) hOd0.deep hw hOd
 have hE:∀ W (f:Fv),TyAt W f d.ty→Calls Tryz.prog 29 #[f.v] W fun e w'=>∃ f':Fv,e=.returned (.tuple #[f'.v,.int .i64 0])∧New W w' f' (turnC (fun _ _=>-1) [] d):=fun W f hT=>Erase_yes d f W hOd hT
 have hG:∀ W (xa:Option Addr) (xc:Nat),Below w.heap.size w W→PAt W ⟨(l:Int),xa,tn,xc⟩ p.to.p→Calls Tryz.prog 36 #[uV a n cap ua un ucap mn,.int .i64 (j:Int),plV (l:Int) xa tn xc] W fun e w'=>∃ f':Fv,e=.returned (.tuple #[f'.v,.int .i64 0])∧New W w' f' d0:=fun W xa xc hW hp=>gType_yes (h.ug.bel hW) (fun la ln lc hL=>h.cx W hW la ln lc hL) (l:Int) xa tn xc hp (by unfold wyX;rw [if_pos rfl];exact hway) hOd0.deep
 have hCa:∀ W,Below w.heap.size w W→Calls Tryz.prog 23 #[uV a n cap ua un ucap mn,.int .i64 (j:Int),.int .i64 (q:Int)] W fun e w'=>e=.returned (.tuple #[.slice none 0 0,zT.v,.int .i64 130])∧Below W.heap.size W w':=fun W hW=>Called_no (h.ug.bel hW) hc h.hp h7
 by_cases h4:p.op=4
 ·obtain ⟨r,c0,gs4,f,gf,hw4,hwf,ha4⟩:=ptB_borrow h.pt h4
  rw [hway0] at hw4
  cases hw4
  unfold Sc.way at hwf
  rw [h.xf,h.xc] at hwf
  obtain ⟨l2,c2,d2,el2,hcl2,hok2,hrg2,hp82,hw2,hOd2,hdr2,hal2,hOf,hfr⟩:=place_facts h.fo hl hwf
  have hx:=atR_at gs g.pt (cntL g.lv cl) q p h.hp
  have hm:made gs p=1:=by unfold made;rw [if_pos h4]
  rw [hm,if_pos (by omega)] at hx
  obtain ⟨m1,m2⟩:=cntP_mono gs g.pt q (cntL g.lv cl) (fun p hp=>(h.ug.rg.few hp).1)
  obtain ⟨m3,m4⟩:=cntL_mono cl cl.length g.lv
  rw [List.take_length] at m3
  have lv0:=hl.lv0
  have hd2:=alike_depth d2 f hal2
  have hd3:=alike_depth c0 f ha4
  have hdd:=hOd0.deep
  simp only [Ch.depth] at hdd
  refine shapes_borrow (j:Int) (q:Int) hF hA hOd hdr hOd0 hd0r x1 x2 hal (alike_turn _ d []) hP hE hG (bb:=.ref p.mu (cntP gs (cntL g.lv cl) (g.pt.take q)) d2) ⟨⟨by omega,hOd2.ok⟩,by simp only [Ch.depth];omega⟩ ⟨⟨by omega,by omega⟩,hdr2⟩ ?_ (fun W hW=>Borrowed_any (h.ug.bel hW) hc (h.sf.bel hW) h.hp h4 el2 hp82 hcl2 hok2 hw2 hOd2 hrg2 hx) hCa
  refine alike_trans _ (.ref p.mu r c0) _ ?_ (by rw [alike_sym];exact hal)
  simp only [alikeB,Bool.and_eq_true,decide_eq_true_eq]
  exact ⟨trivial,alike_trans _ f _ hal2 (by rw [alike_sym];exact ha4)⟩
 ·exact shapes_none (j:Int) (q:Int) hF hA hOd hdr hOd0 hd0r x1 x2 hal (alike_turn _ d []) hP hE hG (fun W hW=>Borrowed_no (h.ug.bel hW) hc h.hp h4) hCa
theorem add_ok {x:Int} (h0:-1≤x) (h1:x≤100000):∀ (c:Ch) (l:List Int),Ok c→(∀ r∈c.regs,0≤r∧r≤100000)→Ok (turnC (fun _ r=>x+r) l c)∧(turnC (fun _ r=>x+r) l c).rg∧(turnC (fun _ r=>x+r) l c).depth=c.depth
 | .leaf k s,l,h,_=>by
  refine ⟨h,?_,rfl⟩
  have h3:(k=1∨k=2)∧s=0∨k=5∧0≤s∧s<32:=h.ok
  show k≤255∧-9223372036854775808≤s∧s≤9223372036854775807
  omega
 | .box c,l,h,h2=>by
  obtain ⟨k1,k2,k3⟩:=add_ok h0 h1 c l h.inBox h2
  exact ⟨⟨k1.ok,by have:=h.deep;simp only [turnC,Ch.depth] at this ⊢;omega⟩,k2,by simp only [turnC,Ch.depth];omega⟩
 | .ref m r c,l,h,h2=>by
  obtain ⟨k1,k2,k3⟩:=add_ok h0 h1 c (l++[r]) h.inRef (fun r' hr=>h2 r' (by simp [Ch.regs,hr]))
  obtain ⟨r0,r1⟩:=h2 r (by simp [Ch.regs])
  exact ⟨⟨⟨by show (-1:Int)≤x+r;omega,k1.ok⟩,by have:=h.deep;simp only [turnC,Ch.depth] at this ⊢;omega⟩,⟨⟨by show (-9223372036854775808:Int)≤x+r;omega,by show x+r≤(9223372036854775807:Int);omega⟩,k2⟩,by simp only [turnC,Ch.depth];omega⟩
theorem opT_len {x:Sc} {o:Opd} {c:Ch} (h:x.opT o=some c):o.pl.p.length≤1000:=by
 have hn:noPlc o.pl=true→o.pl.p.length≤1000:=fun h=>by
  unfold noPlc at h
  simp only [Bool.and_eq_true,decide_eq_true_eq] at h
  simp [h.2]
 have hw:∀ y,x.way o.pl=some y→o.pl.p.length≤1000:=fun y h=>by
  unfold Sc.way wayP at h
  split at h
  ·rename_i h2;omega
  ·cases h
 unfold Sc.opT at h
 split at h
 ·split at h
  ·rename_i h2;exact hn h2
  ·cases h
 ·split at h
  ·split at h
   ·rename_i h2;rw [Bool.and_eq_true] at h2;exact hn h2.1
   ·cases h
  ·split at h
   ·obtain ⟨y,hy,-⟩:=Option.bind_eq_some_iff.1 h;exact hw y hy
   ·split at h
    ·obtain ⟨y,hy,-⟩:=Option.bind_eq_some_iff.1 h;exact hw y hy
    ·cases h
theorem opsT_len8 {x:Sc}:∀ {l:List Opd} {os:List Ch},x.opsT l=some os→∀ o∈l,o.pl.p.length≤1000
 | [],os,h,o,ho=>by simp at ho
 | o'::l,os,h,o,ho=>by
  rw [Sc.opsT,Option.bind_eq_some_iff] at h
  obtain ⟨c,h1,h2⟩:=h
  obtain ⟨os',h3,rfl⟩:=Option.map_eq_some_iff.1 h2
  rcases List.mem_cons.1 ho with rfl|ho
  ·exact opT_len h1
  ·exact opsT_len8 h3 o ho
structure PtCl (w:World) (a ua:Option Addr) (n cap un ucap:Nat) (mn:Int) (gs:List Grp) (j:Nat) (g:Grp) (cl:List Ch) (fc:Nat→List Ch) (x:Sc) (q:Nat) (p:Pnt):Prop where
 c:PtCx w a ua n cap un ucap mn gs j g cl fc x q p
 uf:UF w ua un x.hs
 hr:∀ (j' k:Nat) (cl':List Ch),x.hs[j']?=some (k,cl')→∀ (i:Nat) (c:Ch),i≤k→cl'[i]?=some c→∀ r∈c.regs,0≤r∧r≤100000
 lvs:∀ (j':Nat) (hd:Nat × List Ch),x.hs[j']?=some hd→j'<un
theorem shapes_ptc {w:World} {a ua:Option Addr} {n cap un ucap:Nat} {mn:Int} {gs:List Grp} {j:Nat} {g:Grp} {cl:List Ch} {fc:Nat→List Ch} {x:Sc} {q:Nat} {p:Pnt} (h:PtCl w a ua n cap un ucap mn gs j g cl fc x q p) (hc:cntP gs (cntL g.lv cl) g.pt≤512) (hl:Lok n g.lv cl) (h7:p.op=7)
  (hF:∀ W,Below w.heap.size w W→Calls Tryz.prog 8 #[uV a n cap ua un ucap mn] W fun e w'=>e=.returned (.bool true)∧Below W.heap.size W w') :
  Calls Tryz.prog 7 #[uV a n cap ua un ucap mn,.int .i64 (j:Int),.int .i64 (q:Int)] w fun e w'=>e=.returned (.bool true)∧Below w.heap.size w w':=by
 have hbit:(fldO p.op).testBit 0=true:=by rw [h7];rfl
 obtain ⟨pv,hpv,h63⟩:=pointOf_yes h.c.ug h.c.hp
 obtain ⟨d0,gv,hway,-⟩:=ptB_to h.c.pt hbit
 have hway0:=hway
 unfold Sc.way at hway
 rw [h.c.xf,h.c.xc] at hway
 obtain ⟨l,c,d,el,hcl,hok,hrg,hp8,hw,hOd,hdr,hal,hOd0,hd0r⟩:=place_facts h.c.fo hl hway
 obtain ⟨tl,ta,tn,tc,htp⟩:∃ tl ta tn tc,pv.tp=⟨tl,ta,tn,tc⟩:=⟨_,_,_,_,rfl⟩
 have htl:tl=(l:Int):=by have:=hpv.tl;rw [htp,el] at this;exact this
 subst htl
 have hPA:PAt w ⟨(l:Int),ta,tn,tc⟩ p.to.p:=by have:=hpv.tp;rw [htp] at this;exact this
 rw [el] at hway
 have hA:∀ W,Below w.heap.size w W→Calls Tryz.prog 35 #[uV a n cap ua un ucap mn,.int .i64 (j:Int),.int .i64 (q:Int)] W fun e w'=>∃ (a':Option Addr) (cap':Nat),e=.returned (.tuple #[plV (l:Int) a' tn cap',.bool true,.int .i64 0])∧PAt w' ⟨(l:Int),a',tn,cap'⟩ p.to.p∧Below W.heap.size W w':=fun W hW=>Assigns_yes W a ua n cap un ucap mn (j:Int) (q:Int) pv p.op hpv.op hbit htp (hPA.bel hW) (by omega) (fun V hV=>h63 V (jB hW hV))
 obtain ⟨x1,x2,-⟩:=era_ok d [] hOd hdr
 have hP:∀ W (xa:Option Addr) (xc:Nat),Below w.heap.size w W→PAt W ⟨(l:Int),xa,tn,xc⟩ p.to.p→Calls Tryz.prog 17 #[uV a n cap ua un ucap mn,.int .i64 (j:Int),plV (l:Int) xa tn xc] W fun e w'=>∃ f':Fv,e=.returned (.tuple #[f'.v,.int .i64 0])∧New W w' f' d:=fun W xa xc hW hp=>Place_yes (h.c.ug.bel hW) (fun V hV=>h.c.cx V (jB hW hV)) (h.c.sf.bel hW) hc hcl hok hrg xa tn xc hp hp8 (by unfold wyX;rw [if_pos rfl];exact hway) hOd0.deep hw hOd
 have hE:∀ W (f:Fv),TyAt W f d.ty→Calls Tryz.prog 29 #[f.v] W fun e w'=>∃ f':Fv,e=.returned (.tuple #[f'.v,.int .i64 0])∧New W w' f' (turnC (fun _ _=>-1) [] d):=fun W f hT=>Erase_yes d f W hOd hT
 have hG:∀ W (xa:Option Addr) (xc:Nat),Below w.heap.size w W→PAt W ⟨(l:Int),xa,tn,xc⟩ p.to.p→Calls Tryz.prog 36 #[uV a n cap ua un ucap mn,.int .i64 (j:Int),plV (l:Int) xa tn xc] W fun e w'=>∃ f':Fv,e=.returned (.tuple #[f'.v,.int .i64 0])∧New W w' f' d0:=fun W xa xc hW hp=>gType_yes (h.c.ug.bel hW) (fun la ln lc hL=>h.c.cx W hW la ln lc hL) (l:Int) xa tn xc hp (by unfold wyX;rw [if_pos rfl];exact hway) hOd0.deep
 have hops:opsL p.op p.a p.b p.args=p.args:=by
  unfold opsL
  have e1:(fldO p.op).testBit 1=false:=by rw [h7];rfl
  have e2:(fldO p.op).testBit 2=false:=by rw [h7];rfl
  have e3:(fldO p.op).testBit 3=true:=by rw [h7];rfl
  rw [e1,e2,e3]
  simp
 obtain ⟨c7,gs7,hd,osT,hw7,hhd,ha7,hoT,haL⟩:=ptB_called h.c.pt h7
 rw [hway0] at hw7
 cases hw7
 obtain ⟨pn,cl2⟩:=hd
 obtain ⟨p0,p1⟩:=ptB_call h.c.pt h7
 have hfn:p.fn=((p.fn.toNat:Nat):Int):=by omega
 obtain ⟨ug,uo,nm2,lv2,oa2,on2,oc2,la2,ln2,lc2,na2,nn2,nc2,qa2,qn2,qc2,ea,hC2,hL2,hOk2,hk1,hk2,hk3,hk4⟩:=h.uf.at_ _ _ _ hhd
 subst ea
 have hln:ln2=cl2.length:=by have:=hL2.len;rw [List.length_map] at this;exact this
 have hjn:=h.lvs _ _ hhd
 have hreg:=h.hr _ _ _ hhd
 have hx:=atR_at gs g.pt (cntL g.lv cl) q p h.c.hp
 obtain ⟨m1,m2⟩:=cntP_mono gs g.pt q (cntL g.lv cl) (fun p hp=>(h.c.ug.rg.few hp).1)
 obtain ⟨m3,m4⟩:=cntL_mono cl cl.length g.lv
 rw [List.take_length] at m3
 have lv0:=hl.lv0
 obtain ⟨xx,hxx,hx0,hx1⟩:∃ xx,(atR gs (cntL g.lv cl) g.pt)[q]?=some xx∧-1≤xx∧xx≤100000:=by
  refine ⟨_,hx,?_,?_⟩ <;> split <;> omega
 have hlen2:((cl2.drop 1).take pn).length=pn:=by rw [List.length_take,List.length_drop];omega
 obtain ⟨q1,q2⟩:=opsT_at hoT
 obtain ⟨q3,q4⟩:=(alikeL_iff _ _).1 haL
 have hpna:pn=p.args.length:=by rw [← q1,← q3];exact hlen2.symm
 obtain ⟨c00,hc00⟩:∃ c,cl2[0]?=some c:=⟨_,List.getElem?_eq_getElem (by omega)⟩
 obtain ⟨a1,a2,-⟩:=add_ok hx0 hx1 c00 [] (hOk2 _ (List.mem_of_getElem? hc00)) (hreg 0 c00 (Nat.zero_le _) hc00)
 have hpar:∀ (i:Nat) (c:Ch),((cl2.drop 1).take pn)[i]?=some c→Ok c∧∀ r∈c.regs,0≤r∧r≤100000:=fun i c hi=>by
  have hi2:i<pn:=by have:=(List.getElem?_eq_some_iff.1 hi).1;omega
  rw [List.getElem?_take,if_pos hi2,List.getElem?_drop] at hi
  exact ⟨hOk2 c (List.mem_of_getElem? hi),hreg (1+i) c (by omega) hi⟩
 have hCa:∀ W,Below w.heap.size w W→Calls Tryz.prog 23 #[uV a n cap (some ⟨ug,uo,none⟩) un ucap mn,.int .i64 (j:Int),.int .i64 (q:Int)] W fun e w'=>∃ (aP:Option Addr) (cP:Nat) (f':Fv),e=.returned (.tuple #[.slice aP pn cP,f'.v,.int .i64 0])∧(∃ fl lo hi,FRow w' W.heap.size (.slice aP pn cP) (((cl2.drop 1).take pn).map (turnC (fun _ r=>xx+r) [])) fl lo hi)∧New W w' f' (turnC (fun _ r=>xx+r) [] c00):=fun W hW=>by
  refine (Called_yes (h.c.ug.bel hW) hc h.c.hp h7 hfn hjn (hC2.bel hW) (hL2.bel hW) (by omega) (by omega) (by omega) hOk2 hreg hxx hx0 hx1).mono fun e w' hh=>?_
  obtain ⟨aP,cP,f',k1,k2,c0',k3,k4⟩:=hh
  rw [hc00] at k3
  cases k3
  exact ⟨aP,cP,f',k1,k2,k4⟩
 have hOp:∀ W,Below w.heap.size w W→Calls Tryz.prog 37 #[uV a n cap (some ⟨ug,uo,none⟩) un ucap mn,.int .i64 (j:Int),.int .i64 (q:Int)] W fun e w'=>∃ (a':Option Addr) (cap':Nat),e=.returned (.tuple #[.slice a' pn cap',.int .i64 0])∧OL w' a' pn cap' p.args∧Below W.heap.size W w':=fun W hW=>by
  refine (Operands_yes W a (some ⟨ug,uo,none⟩) n cap un ucap mn (j:Int) (q:Int) pv (hpv.bel hW) (by rw [hops];exact opsT_len8 hoT) (fun V hV=>h63 V (jB hW hV))).mono fun e w' hh=>?_
  obtain ⟨a',n',cap',k1,k2,k3⟩:=hh
  rw [hops] at k2
  have:n'=pn:=by rw [hpna];exact k2.len
  subst this
  exact ⟨a',cap',k1,k2,k3⟩
 refine shapes_call (j:Int) (q:Int) hF hA hOd hdr hOd0 hd0r x1 x2 hal (alike_turn _ d []) hP hE hG (fun W hW=>Borrowed_no (h.c.ug.bel hW) hc h.c.hp (by omega)) (an:=turnC (fun _ r=>xx+r) [] c00) (L:=((cl2.drop 1).take pn).map (turnC (fun _ r=>xx+r) [])) (pn:=pn) (os:=p.args) a1 a2 ?_ (by rw [List.length_map];exact hlen2) (by omega) (fun c hcm=>?_) hCa hOp (fun i o hi hk=>?_)
 ·rw [hc00] at ha7
  exact alike_trans _ c00 _ (alike_turn _ c00 []) (alike_trans _ d0 _ ha7 (by rw [alike_sym];exact hal))
 ·obtain ⟨c',hc',rfl⟩:=List.mem_map.1 hcm
  obtain ⟨i,hi⟩:=List.getElem?_of_mem hc'
  obtain ⟨k1,k2⟩:=hpar i c' hi
  obtain ⟨k3,k4,-⟩:=add_ok hx0 hx1 c' [] k1 k2
  exact ⟨k3,k4⟩
 ·obtain ⟨co,gso,hco,hwo⟩:=q2 i o hi hk
  unfold Sc.way at hwo
  rw [h.c.xf,h.c.xc] at hwo
  obtain ⟨l2,cc,d2,el2,hcl2,hok2,hrg2,hp82,hw2,hOd2,hdr2,hal2,hOo,hor⟩:=place_facts h.c.fo hl hwo
  obtain ⟨cp,hcp⟩:∃ cp,((cl2.drop 1).take pn)[i]?=some cp:=⟨_,List.getElem?_eq_getElem (by rw [hlen2,hpna];exact (List.getElem?_eq_some_iff.1 hi).1)⟩
  refine ⟨d2,turnC (fun _ r=>xx+r) [] cp,by rw [List.getElem?_map,hcp];rfl,hOd2,hdr2,alike_trans _ co _ hal2 (alike_trans _ cp _ (by rw [alike_sym];exact q4 i cp co hcp hco) (by rw [alike_sym];exact alike_turn _ cp [])),fun W xa xn xc hW hPo=>?_⟩
  rw [el2] at hPo hwo ⊢
  exact Place_yes (h.c.ug.bel hW) (fun V hV=>h.c.cx V (jB hW hV)) (h.c.sf.bel hW) hc hcl2 hok2 hrg2 xa xn xc hPo hp82 (by unfold wyX;rw [if_pos rfl];exact hwo) hOo.deep hw2 hOd2
theorem UFs.all {w:World} {a ua:Option Addr} {n cap un:Nat} {mn:Int} {ss:List (List Ty)} {gs:List Grp} {fc:Nat→List Ch} {hs:List (Nat × List Ch)} {xs:List (Sc × List Pnt)} (h:UFs w a ua n cap un mn ss gs fc hs xs) {j:Nat} {g:Grp} (hg:gs[j]?=some g) :
  UF w ua un hs∧(∀ (j' k:Nat) (cl':List Ch),hs[j']?=some (k,cl')→∀ (i:Nat) (c:Ch),i≤k→cl'[i]?=some c→∀ r∈c.regs,0≤r∧r≤100000)∧∀ (j':Nat) (hd:Nat × List Ch),hs[j']?=some hd→j'<un:=by
 obtain ⟨cl,h1,h2,h3⟩:=h.xi.at_ j g hg
 obtain ⟨ug,uo,nm,lv,oa,on,oc,pa,la,ln,lc,na,nn,nc,qa,qn,qc,ea,hC7,hS,hUF,-,-,hP,hq⟩:=h.ug.at_ j _ _ h3
 have hUF':UF w ua un hs:=hUF
 refine ⟨hUF',fun j' k cl' hj i c hi hc r hr=>?_,fun j' hd hj=>by have:=(List.getElem?_eq_some_iff.1 hj).1;rw [hUF'.len] at this;exact this⟩
 have hj2:j'<gs.length:=by have:=(List.getElem?_eq_some_iff.1 hj).1;rw [h.xi.l1] at this;exact this
 obtain ⟨g',hg'⟩:∃ g,gs[j']?=some g:=⟨_,List.getElem?_eq_getElem hj2⟩
 obtain ⟨cl2,k1,k2,k3⟩:=h.xi.at_ j' g' hg'
 rw [hj] at k2
 cases k2
 obtain ⟨c1,c2,c3,c4,c5,c6,c7,c8,c9⟩:=cnt_parts k1.cnt
 obtain ⟨r1,r2⟩:=k1.reg i c hc r hr
 omega
theorem shapes_walk {w:World} {a ua:Option Addr} {n cap un ucap:Nat} {mn:Int} {ss:List (List Ty)} {gs:List Grp} (fn q:Int) (hSt:StAt w a n cap ss) (hU:UnAt w ua un gs):Calls Tryz.prog 7 #[uV a n cap ua un ucap mn,.int .i64 fn,.int .i64 q] w fun e w'=>e=.returned (.bool true)∧Below w.heap.size w w':=by
 obtain ⟨b1,b2,b3,hb⟩:=flt_ex ss
 have hF:∀ W,Below w.heap.size w W→Calls Tryz.prog 8 #[uV a n cap ua un ucap mn] W fun e w'=>e=.returned (.bool (fitB n un ss gs))∧Below W.heap.size W w':=fun W hW=>fitsU_any ucap mn (hSt.bel hW) (unAt_bel hU hW) _ rfl
 have hM:∀ mb:Bool,(mb=true↔UOk ss n (decide ((stRes n b1 b2 b3).2=0)) un mn gs)→∀ W,Below w.heap.size w W→Calls Tryz.prog 32 #[uV a n cap ua un ucap mn] W fun e w'=>e=.returned (.bool mb)∧Below W.heap.size W w':=fun mb hmb W hW=>mayU_any ucap (hSt.bel hW) hb (unAt_bel hU hW) rfl mb hmb
 cases hfit:fitB n un ss gs with
 | false =>
  rw [hfit] at hF
  exact shapes_big fn q hF
 | true =>
  rw [hfit] at hF
  have hno:(∀ W,Below w.heap.size w W→Calls Tryz.prog 63 #[uV a n cap ua un ucap mn,.int .i64 fn,.int .i64 q] W fun e w'=>e=.returned (.tuple #[.agg (pC zPv).toArray,.int .i64 2])∧Below W.heap.size W w')→Calls Tryz.prog 7 #[uV a n cap ua un ucap mn,.int .i64 fn,.int .i64 q] w fun e w'=>e=.returned (.bool true)∧Below w.heap.size w w':=fun h63=>shapes_un fn q 2 hF (fun W hW=>Assigns_no W a ua n cap un ucap mn fn q (fun V hV=>h63 V (jB hW hV))) (.inl rfl)
  by_cases hok:UOk ss n (decide ((stRes n b1 b2 b3).2=0)) un mn gs
  ·have hm:=hM true ⟨fun _=>hok,fun _=>rfl⟩
   by_cases h0:0≤fn∧fn<(un:Int)
   ·obtain ⟨j,rfl⟩:∃ j:Nat,fn=(j:Int):=⟨fn.toNat,by omega⟩
    obtain ⟨g,hg⟩:∃ g,gs[j]?=some g:=⟨_,List.getElem?_eq_getElem (by have:=hU.len;omega)⟩
    obtain ⟨cl,h1,h2⟩:=rgIn_of hU hok hg
    have hug:UG1 w a ua n cap un ucap mn gs j g cl (fun _=>[]):=⟨hm,h1,hg⟩
    by_cases hq:0≤q∧q<(g.pt.length:Int)
    ·obtain ⟨k,rfl⟩:∃ k:Nat,q=(k:Int):=⟨q.toNat,by omega⟩
     obtain ⟨p,hp⟩:∃ p,g.pt[k]?=some p:=⟨_,List.getElem?_eq_getElem (by omega)⟩
     cases hbit:(fldO p.op).testBit 0 with
     | false =>
      obtain ⟨pv,hpv,h63⟩:=pointOf_yes hug hp
      exact shapes_un (j:Int) (k:Int) 0 hF (fun W hW=>Assigns_un W a ua n cap un ucap mn (j:Int) (k:Int) pv p.op hpv.op hbit (fun V hV=>h63 V (jB hW hV))) (.inr rfl)
     | true =>
      obtain ⟨fc,hs,xs,hfs⟩:=ufs_of hSt hb hU hok
      obtain ⟨cl',k1,k2,hSF,hPt,hFo,hn32,hcl,la,ln,lc,hLc⟩:=hfs.one hg
      have ecl:cl'=cl:=k1.uniq h2
      subst ecl
      obtain ⟨u1,u2,u3⟩:=hfs.all hg
      have hso:(stRes n b1 b2 b3).2=0:=by
       have hu:=hok.un
       unfold unitB at hu
       simp only [Bool.and_eq_true,decide_eq_true_iff] at hu
       exact hu.1.1.1
      have hcx:=cx_at hSt hb hso hSF hcl
      have hPC:PtCx w a ua n cap un ucap mn gs j g cl' fc ⟨fc,cl',dU ss n,hs,g.pt.length⟩ k p:=⟨hug,hcx,hSF,hFo,hp,hPt p (List.mem_of_getElem? hp),rfl,rfl⟩
      by_cases hc:cntP gs (cntL g.lv cl') g.pt≤512
      ·have hlk:=lok_of k1 hcl hn32 (by
        obtain ⟨m1,m2⟩:=cntP_mono gs g.pt k (cntL g.lv cl') (fun p hp=>(h1.few hp).1)
        omega)
       by_cases h7:p.op=7
       ·exact shapes_ptc ⟨hPC,u1,u2,u3⟩ hc hlk h7 hF
       ·exact shapes_pt hPC hc hlk h7 hF hbit
      ·obtain ⟨pv,hpv,h63⟩:=pointOf_yes hug hp
       obtain ⟨d0,gv,hway,-⟩:=ptB_to hPC.pt hbit
       unfold Sc.way at hway
       have hway2:wayP fc cl' p.to.l p.to.p=some (d0,gv):=hway
       have hd0:d0.depth≤48∧p.to.p.length≤8:=by
        unfold wayP at hway
        split at hway
        ·rename_i hl
         obtain ⟨c0,hc0,hw⟩:=Option.bind_eq_some_iff.1 hway
         obtain ⟨e1,e2,e3⟩:=hcl c0 (List.mem_of_getElem? hc0)
         exact ⟨(hFo.way e1 e2 e3 hw).2.1.deep,hl.2⟩
        ·cases hway
       obtain ⟨tl,ta,tn,tc,htp⟩:∃ tl ta tn tc,pv.tp=⟨tl,ta,tn,tc⟩:=⟨_,_,_,_,rfl⟩
       have htl:tl=p.to.l:=by have:=hpv.tl;rw [htp] at this;exact this
       have hPA:PAt w ⟨tl,ta,tn,tc⟩ p.to.p:=by have:=hpv.tp;rw [htp] at this;exact this
       exact shapes_five (j:Int) (k:Int) hF (fun W hW=>Assigns_yes W a ua n cap un ucap mn (j:Int) (k:Int) pv p.op hpv.op hbit htp (hPA.bel hW) (by omega) (fun V hV=>h63 V (jB hW hV))) (fun W xa xc hW hPw=>Place_big (hug.bel hW) (fun V hV=>hcx V (jB hW hV)) (by omega) tl xa tn xc hPw (by unfold wyX;rw [if_pos rfl,htl];exact hway2) hd0.1)
    ·exact hno (fun W hW=>pointOf_no2 hug q (by omega) W hW)
   ·exact hno (fun W hW=>pointOf_no1 fn q true hm (by omega) W hW)
  ·have hm:=hM false ⟨(fun h=>by cases h),fun h=>absurd h hok⟩
   exact hno (fun W hW=>pointOf_no1 fn q false hm (.inr (.inr rfl)) W hW)
end Go.Proofs.YtdlggpcakaofoaaGreat
