import Derived.Test.YtmjenlogbkbgnaaGreatDoorC00
import Derived.Test.YtmjenlogbkbgnaaGreatDoorB27
import Derived.Test.YtmjenlogbkbgnaaGreatDoorC20
namespace Go.Proofs.YtmjenlogbkbgnaaGreatDoor
open Go.RowKit Go.Shelf
set_option linter.unusedVariables false
set_option linter.unusedSimpArgs false
set_option maxRecDepth 100000
set_option maxHeartbeats 4000000
theorem ptB_call {x:Sc} {p:Pnt} (h:x.ptB p=true) (h7:p.op=7):0≤p.fn∧p.fn.toNat<x.hs.length:=by
 unfold Sc.ptB at h
 simp only [Bool.and_eq_true] at h
 have h2:=h.2
 split at h2
 ·unfold Sc.opB at h2
  simp only [h7] at h2
  simp at h2
  obtain ⟨e1,e2⟩:=h2
  refine ⟨e1,?_⟩
  split at e2
  ·rename_i hh
   exact (List.getElem?_eq_some_iff.1 hh).1
  ·cases e2
 ·cases h2
theorem rgIn_of {w:World} {ua:Option Addr} {un n:Nat} {mn:Int} {ss:List (List Ty)} {so:Bool} {gs:List Grp} (hU:UnAt w ua un gs) (hok:UOk ss n so un mn gs) {j:Nat} {g:Grp} (hg:gs[j]?=some g):∃ cl,RgIn w ua un gs j g cl∧HdOk n (isMn mn j) g cl:=by
 obtain ⟨fc,hs,xs,hX,hP⟩:=hok.pt
 obtain ⟨cl,hH,hhs,hxs⟩:=hX.at_ j g hg
 have hu:=hok.un
 unfold unitB at hu
 simp only [Bool.and_eq_true,decide_eq_true_iff] at hu
 have hlen:=hU.len
 have hjl:j<gs.length:=(List.getElem?_eq_some_iff.1 hg).1
 obtain ⟨c1,c2,c3,c4,c5,c6,c7,c8,c9⟩:=cnt_parts hH.cnt
 have hll:g.lo.length=cl.length:=by rw [hH.lo,List.length_map]
 refine ⟨cl,⟨hu.1.1.2,by omega,?_,fun c hc=>(hH.ok c hc).2,c1,c2,by omega,c9,fun p hp h7=>?_⟩,hH⟩
 ·obtain ⟨ug,uo,nm,lv,oa,on,oc,pa,la,ln,lc,na,nn,nc,qa,qn,qc,ea,hC7,hG⟩:=hU.at_ j g hg
  have e:=hG.lv
  subst e
  exact ⟨ug,uo,nm,oa,on,oc,pa,la,ln,lc,na,nn,nc,qa,qn,qc,ea,hC7,by rw [← hH.lo];exact hG.lo,hG.pt⟩
 ·obtain ⟨p0,p1⟩:=ptB_call (hP j _ _ hxs p hp) h7
  have p2:p.fn.toNat<gs.length:=by rw [← hX.l1];exact p1
  obtain ⟨g',hg'⟩:∃ g',gs[p.fn.toNat]?=some g':=⟨_,List.getElem?_eq_getElem p2⟩
  obtain ⟨cl',hH',-,-⟩:=hX.at_ _ g' hg'
  obtain ⟨d1,d2,-⟩:=cnt_parts hH'.cnt
  refine ⟨p.fn.toNat,g',by omega,by omega,hg',d1,d2,fun ug uo eu=>?_⟩
  obtain ⟨ug',uo',nm,lv,oa,on,oc,pa,la,ln,lc,na,nn,nc,qa,qn,qc,ea,hC7,hG⟩:=hU.at_ _ g' hg'
  rw [eu] at ea
  cases ea
  refine ⟨hC7.1,?_⟩
  rw [← hG.lv]
  exact hC7.cells.2.1
structure UG1 (w:World) (a ua:Option Addr) (n cap un ucap:Nat) (mn:Int) (gs:List Grp) (j:Nat) (g:Grp) (cl:List Ch) (fc:Nat→List Ch):Prop where
 may:∀ W,Below w.heap.size w W→Calls Tryz.prog 103 #[uV a n cap ua un ucap mn] W fun e w'=>e=.returned (.bool true)∧Below W.heap.size W w'
 rg:RgIn w ua un gs j g cl
 gj:gs[j]?=some g
theorem RgIn.bel {w W:World} {ua:Option Addr} {un:Nat} {gs:List Grp} {j:Nat} {g:Grp} {cl:List Ch} (h:RgIn w ua un gs j g cl) (hW:Below w.heap.size w W):RgIn W ua un gs j g cl:=by
 obtain ⟨ug,uo,nm,oa,on,oc,pa,la,ln,lc,na,nn,nc,qa,qn,qc,ea,hC7,hLc,hPs⟩:=h.ex
 refine ⟨h.un32,h.jn,⟨ug,uo,nm,oa,on,oc,pa,la,ln,lc,na,nn,nc,qa,qn,qc,ea,hC7.bel hW,hLc.bel hW,hPs.bel hW⟩,h.ok,h.lv0,h.lv8,h.cln,h.ptn,fun p hp h7=>?_⟩
 obtain ⟨j',g',h1,h2,h3,h4,h5,h6⟩:=h.call p hp h7
 refine ⟨j',g',h1,h2,h3,h4,h5,fun ug uo e=>?_⟩
 obtain ⟨k1,k2⟩:=h6 ug uo e
 exact ⟨Nat.lt_of_lt_of_le k1 hW.size,(hW.cell (p:=⟨ug,uo+j'*7+1,none⟩) k1).trans k2⟩
theorem UG1.bel {w W:World} {a ua:Option Addr} {n cap un ucap:Nat} {mn:Int} {gs:List Grp} {j:Nat} {g:Grp} {cl:List Ch} {fc:Nat→List Ch} (h:UG1 w a ua n cap un ucap mn gs j g cl fc) (hW:Below w.heap.size w W):UG1 W a ua n cap un ucap mn gs j g cl fc:=⟨fun V hV=>h.may V (jB hW hV),h.rg.bel hW,h.gj⟩
theorem isGraph_yes {w:World} {a ua:Option Addr} {n cap un ucap:Nat} {mn:Int} {gs:List Grp} {j:Nat} {g:Grp} {cl:List Ch} {fc:Nat→List Ch} (h:UG1 w a ua n cap un ucap mn gs j g cl fc):Calls Tryz.prog 84 #[uV a n cap ua un ucap mn,.int .i64 (j:Int)] w fun e w'=>e=.returned (.bool true)∧Below w.heap.size w w':=by
 have CM:=jH (h.may (w.alloc (uO a n cap ua un ucap mn)) (belA bR))
 have j0:(0:Int)≤(j:Int):=by omega
 have j1:(j:Int)<(un:Int):=by have:=h.rg.jn;omega
 have u32:(un:Int)≤32:=by have:=h.rg.un32;omega
 clear h
 go_enter Tryz.func84,Tryz.ntmps84
 go_wp2_with (go_at_call 103;refine CM.out.mono ?_;rintro e w5 ⟨rfl,hb5⟩;have HB5:=jH (below1 hb5);clear hb5)
 go_ret
 exact ⟨rfl,HB5.out⟩
theorem Tryz.results56:Tryz.f56.results=#[.cell 4 77,.tmp 5]:=rfl
theorem wpl_storeR {w:World} {ops:Array Oper} {rest:List Oper} {a9:Act} {Q:Exit→Act→World→Prop} {x y:Nat} {ty:TypeId} {pos:String} {after:Array Edge} (b:Nat) {l0 n0 c0:Int} {v0 v1:Value} (lv np cn:Int) (aL:Option Addr) (i cL:Nat) (aA:Option Addr) (q cA:Nat) (hA:At w b (rgO l0 n0 c0 v0 v1))
  (hx:a9.eval (.tmp x)=.pointer (some ⟨b,0,none⟩)) (hy:a9.eval (.tmp y)=rgV lv np cn (.slice aL i cL) (.slice aA q cA))
  (h:∀ w',At w' b (rgO lv np cn (.slice aL i cL) (.slice aA q cA))→But b w w'→wpList Tryz.prog ops Q rest a9 w'):wpList Tryz.prog ops Q (⟨none,.store 77 (.tmp x) (.tmp y),ty,pos,after,none⟩::rest) a9 w:=by
 refine wpList_store_mid rfl 77 (.tmp x) (.tmp y) rfl b 0 _ hx hy (fun j hj=>?_) (by kernel_rfl) (by simp [Value.oneCell']) ?_
 ·unfold At at hA
  refine ⟨?_,frozen_of_row _ _ _ _ _ hA⟩
  rw [cell_of_row _ _ _ _ _ _ hA,Nat.zero_add]
  have:j<5:=hj
  simp [this]
 ·exact h _ (hA.set5R lv np cn aL i cL aA q cA) (but_s5r w b lv np cn aL i cL aA q cA)
structure RgIs (w w':World) (gs:List Grp) (g:Grp) (cl:List Ch) (aL:Option Addr) (cL:Nat) (aA:Option Addr) (cA:Nat):Prop where
 row:∃ fl lo hi,FRow w' w.heap.size (.slice aL cl.length cL) (numR g.lv cl) fl lo hi
 ats:w'.ownsRow w.heap.size 3 1 (.slice aA g.pt.length cA) g.pt.length (iCells (atR gs (cntL g.lv cl) g.pt))
theorem FRow.but {W W':World} {B b:Nat} {v:Value} {cs:List Ch} {fl:List Fv} {lo hi:Nat→Nat} (h:FRow W B v cs fl lo hi) (k:But b W W') (hb:b<B):FRow W' B v cs fl lo hi:=h.grow k (fun x e=>by cases e;exact hb)
theorem RgIs.bel {w w1 w2:World} {gs:List Grp} {g:Grp} {cl:List Ch} {aL:Option Addr} {cL:Nat} {aA:Option Addr} {cA:Nat} (h:RgIs w w1 gs g cl aL cL aA cA) (k:Below w1.heap.size w1 w2):RgIs w w2 gs g cl aL cL aA cA:=by
 obtain ⟨fl,lo,hi,hr⟩:=h.row
 exact ⟨⟨fl,lo,hi,hr.bel k⟩,own_bel h.ats k⟩
theorem RgIs.but {w w1 w2:World} {b:Nat} {gs:List Grp} {g:Grp} {cl:List Ch} {aL:Option Addr} {cL:Nat} {aA:Option Addr} {cA:Nat} (h:RgIs w w1 gs g cl aL cL aA cA) (k:But b w1 w2) (hb:b<w.heap.size):RgIs w w2 gs g cl aL cL aA cA:=by
 obtain ⟨fl,lo,hi,hr⟩:=h.row
 exact ⟨⟨fl,lo,hi,hr.but k hb⟩,own_grow h.ats k (fun x e=>by have:=own_lo h.ats x e;intro e2;cases e2;omega)⟩
theorem RgIs.low {w w0 w1:World} {gs:List Grp} {g:Grp} {cl:List Ch} {aL:Option Addr} {cL:Nat} {aA:Option Addr} {cA:Nat} (h:RgIs w w1 gs g cl aL cL aA cA) (hb:w0.heap.size≤w.heap.size):RgIs w0 w1 gs g cl aL cL aA cA:=by
 obtain ⟨fl,lo,hi,hr⟩:=h.row
 exact ⟨⟨fl,lo,hi,hr.low hb⟩,own_low h.ats hb⟩
theorem Of_yes {w:World} {a ua:Option Addr} {n cap un ucap:Nat} {mn:Int} {gs:List Grp} {j:Nat} {g:Grp} {cl:List Ch} {fc:Nat→List Ch} (h:UG1 w a ua n cap un ucap mn gs j g cl fc) (hc:cntP gs (cntL g.lv cl) g.pt≤512) :
  Calls Tryz.prog 56 #[uV a n cap ua un ucap mn,.int .i64 (j:Int)] w fun e w'=>∃ aL cL aA cA,e=.returned (.tuple #[rgV g.lv g.pt.length (cntP gs (cntL g.lv cl) g.pt) (.slice aL cl.length cL) (.slice aA g.pt.length cA),.int .i64 0])∧RgIs w w' gs g cl aL cL aA cA∧Below w.heap.size w w':=by
 obtain ⟨V,hV⟩:∃ V,V=(w.alloc (uO a n cap ua un ucap mn)).alloc (rgO 0 0 0 (.slice none 0 0) (.slice none 0 0)):=⟨_,rfl⟩
 have hB:Below w.heap.size w V:=by rw [hV];exact belA (belA bR)
 have A2:Hid (At V w.heap.size (uO a n cap ua un ucap mn)):=jH (by rw [hV];exact (At.new _ _).alloc _)
 have A4:Hid (At V (w.heap.size+1) (rgO 0 0 0 (.slice none 0 0) (.slice none 0 0))):=jH (by rw [hV];exact at_snd _ _ _)
 have hz:Hid (V.heap.size=w.heap.size+2):=jH (by rw [hV];simp only [World.size_alloc])
 have CG:=jH (isGraph_yes (h.bel hB))
 have CR:Hid (∀ W,Below V.heap.size V W→Calls Tryz.prog 85 #[uV a n cap ua un ucap mn,.int .i64 (j:Int)] W fun e w'=>(∃ aL cL aA cA,e=.returned (.tuple #[rgV g.lv g.pt.length (cntP gs (cntL g.lv cl) g.pt) (.slice aL cl.length cL) (.slice aA g.pt.length cA),.int .i64 0])∧RgIs W w' gs g cl aL cL aA cA)∧Below W.heap.size W w'):=jH fun W hW=>(regionsOf_any (a:=a) (n:=n) (cap:=cap) ucap mn (h.rg.bel (jB hB hW))).mono fun e w' k=>by
  obtain ⟨aL,cL,aA,cA,fl,lo,hi,h1,h2,h3⟩:=k.1.1 hc
  exact ⟨⟨aL,cL,aA,cA,h1,⟨⟨fl,lo,hi,h2⟩,h3⟩⟩,k.2⟩
 have HB:=jH hB
 have HV:=jH hV
 obtain ⟨lv,hlv⟩:∃ lv,lv=g.lv:=⟨_,rfl⟩
 obtain ⟨np,hnp⟩:∃ np,np=g.pt.length:=⟨_,rfl⟩
 obtain ⟨nl,hnl⟩:∃ nl,nl=cl.length:=⟨_,rfl⟩
 obtain ⟨cn,hcn⟩:∃ cn,cn=cntP gs (cntL g.lv cl) g.pt:=⟨_,rfl⟩
 rw [← hcn,← hlv,← hnp,← hnl] at CR
 rw [← hcn,← hlv,← hnp,← hnl]
 clear h hc hB hV hlv hnp hnl hcn
 go_enter Tryz.func56,Tryz.ntmps56
 go_upto_region 1 with fail
 change Code.wp _ _ _ _ ((w.alloc (uO a n cap ua un ucap mn)).alloc (rgO 0 0 0 (.slice none 0 0) (.slice none 0 0)))
 rw [← HV.out]
 clear HV
 obtain ⟨u0,u1,u2⟩:=A2.out.un
 go_wp2_with (first
  | (go_at_call 84;refine CG.out.mono ?_;rintro e w1 ⟨rfl,hb1⟩;have HB1:=jH hb1;clear u0 u1 u2;obtain ⟨u0,u1,u2⟩:=(A2.out.below hb1).un;clear hb1)
  | (go_at_call 85;refine (CR.out w1 HB1.out).mono ?_;rintro e w2 ⟨⟨aL,cL,aA,cA,rfl,hR⟩,hb2⟩;have HR:=jH hR;have HB2:=jH (jB HB1.out hb2);have HA4:=jH ((A4.out.below HB1.out).below hb2);clear hb2 hR u0 u1 u2)
  | ((with_reducible show wpList _ _ _ (Oper.mk none (Op.store 77 _ _) _ _ _ none::_) _ _);refine wpl_storeR (w.heap.size+1) lv np cn aL nl cL aA np cA HA4.out rfl rfl ?_;intro w9 h9 hb9;have H9:=jH h9;have HB9:=jH hb9;clear h9 hb9))
 have s1:=HB1.out.size
 have s2:=hz.out
 exact bodyPost_ret (results_r2 (v:=.int .i64 0) (lv:=lv) (np:=np) (cn:=cn) (vL:=.slice aL nl cL) (vA:=.slice aA np cA) Tryz.results56 rfl rfl H9.out) rfl ⟨aL,cL,aA,cA,rfl,((HR.out.but HB9.out (by omega)).low (by omega)),(jB HB.out HB2.out).grown HB9.out (by have:=HB2.out.size;have:=HB.out.size;omega) (fun k e=>by cases e;omega)⟩
def zQ:Plc:=⟨0,[]⟩
def zD:Opd:=⟨0,0,zQ⟩
def hp0:Pnt:=⟨4,⟨2,[]⟩,zD,zD,[],[],⟨1,[]⟩,true,0,0,1,0,0⟩
def hp1:Pnt:=⟨1,⟨1,[]⟩,⟨1,2,zQ⟩,zD,[],[],zQ,false,0,0,2,0,0⟩
def hp2:Pnt:=⟨1,⟨2,[-1]⟩,⟨1,3,zQ⟩,zD,[],[],zQ,false,0,0,3,0,0⟩
def hp3:Pnt:=⟨14,zQ,zD,zD,[],[],zQ,false,0,0,0,0,0⟩
def hcl:List Ch:=[.leaf 1 0,.leaf 1 0,.ref true (-1) (.leaf 1 0)]
def hG:Grp:=⟨ByteArray.empty,0,[],0,hcl.map Ch.ty,[ByteArray.empty,ByteArray.empty,ByteArray.empty],[hp0,hp1,hp2,hp3]⟩
theorem zP_at (W:World) (l:Int) (h0:-9223372036854775808≤l) (h1:l≤9223372036854775807):PAt W ⟨l,none,0,0⟩ []:=⟨⟨rfl,Nat.le_refl _,Nat.zero_le _,fun h=>absurd rfl h,fun x hx=>by simp at hx,fun _=>rfl⟩,h0,h1⟩
theorem zO_at (W:World) (k:Nat) (n:Int):OAt W ⟨k,n,zP⟩ ⟨k,n,zQ⟩:=⟨rfl,rfl,rfl,zP_at W 0 (by omega) (by omega)⟩
theorem sg_nil:ByteArray.empty.toList=[]:=by simp [ByteArray.toList,ByteArray.toList.loop]
theorem OL_nil (W:World):OL W none 0 0 []:=⟨rfl,by omega,fun _=>rfl,fun h=>absurd rfl h⟩
theorem hand_points {W:World} {bu bl br bn bp bq:Nat} (h:HandAt W bu bl br bn bp bq):PsL W (some ⟨bp,0,none⟩) 4 4 [hp0,hp1,hp2,hp3]:=⟨rfl,fun i p hi=>by
 have hlt:=h.p.lt
 match i,hi with
 | 0,hi =>
  simp at hi;subst hi
  refine ⟨bp,0,hv0,rfl,hlt,at_rng h.p _ _ (fun j v hj=>?_),⟨rfl,zP_at W 2 (by omega) (by omega),rfl,zO_at W 0 0,zO_at W 0 0,OL_nil W,sg_nil,zP_at W 1 (by omega) (by omega),rfl,rfl,rfl,rfl,rfl,rfl,rfl⟩⟩
  rw [List.append_assoc,List.append_assoc,Nat.zero_mul,Nat.zero_add,List.getElem?_append_left (List.getElem?_eq_some_iff.1 hj).1];exact hj
 | 1,hi =>
  simp at hi;subst hi
  refine ⟨bp,0,hv1,rfl,hlt,at_rng h.p _ _ (fun j v hj=>?_),⟨rfl,zP_at W 1 (by omega) (by omega),rfl,zO_at W 1 2,zO_at W 0 0,OL_nil W,sg_nil,zP_at W 0 (by omega) (by omega),rfl,rfl,rfl,rfl,rfl,rfl,rfl⟩⟩
  rw [List.append_assoc,List.append_assoc,List.getElem?_append_right (by show 21≤_;omega),List.getElem?_append_left (by have:=(List.getElem?_eq_some_iff.1 hj).1;show 0+1*21+j - 21<21;have h21:(pC hv1).length=21:=rfl;omega)]
  rw [show 0+1*21+j - (pC hv0).length=j from by show 0+1*21+j - 21=j;omega];exact hj
 | 2,hi =>
  simp at hi;subst hi
  refine ⟨bp,0,hv2 bq,rfl,hlt,at_rng h.p _ _ (fun j v hj=>?_),⟨rfl,⟨⟨rfl,Nat.le_refl _,by show 1≤maxLen;unfold maxLen;omega,fun _=>⟨bq,0,rfl,h.q.lt,fun i x hx=>?_⟩,fun x hx=>by simp [hp2] at hx;omega,fun e=>by cases e⟩,by show (-9223372036854775808:Int)≤2;omega,by show (2:Int)≤9223372036854775807;omega⟩,rfl,zO_at W 1 3,zO_at W 0 0,OL_nil W,sg_nil,zP_at W 0 (by omega) (by omega),rfl,rfl,rfl,rfl,rfl,rfl,rfl⟩⟩
  ·rw [List.append_assoc,List.getElem?_append_right (by show 42≤_;omega),List.getElem?_append_left (by have:=(List.getElem?_eq_some_iff.1 hj).1;show 0+2*21+j - 42<21;have h21:(pC (hv2 bq)).length=21:=rfl;omega)]
   rw [show 0+2*21+j - (pC hv0++pC hv1).length=j from by show 0+2*21+j - 42=j;omega];exact hj
  ·have hq:=h.q
   unfold At at hq
   match i,hx with
   | 0,hx=>simp [hp2] at hx;subst hx;simp [World.cell?,hq]
   | i+1,hx=>simp [hp2] at hx
 | 3,hi =>
  simp at hi;subst hi
  refine ⟨bp,0,hv3,rfl,hlt,at_rng h.p _ _ (fun j v hj=>?_),⟨rfl,zP_at W 0 (by omega) (by omega),rfl,zO_at W 0 0,zO_at W 0 0,OL_nil W,sg_nil,zP_at W 0 (by omega) (by omega),rfl,rfl,rfl,rfl,rfl,rfl,rfl⟩⟩
  rw [List.getElem?_append_right (by show 63≤_;omega)]
  rw [show 0+3*21+j - (pC hv0++pC hv1++pC (hv2 bq)).length=j from by show 0+3*21+j - 63=j;omega];exact hj
 | i+4,hi=>simp at hi⟩
theorem hand_locals {W:World} {bu bl br bn bp bq:Nat} (h:HandAt W bu bl br bn bp bq):LcAt W (some ⟨bl,0,none⟩) 3 3 (hcl.map Ch.ty):=⟨rfl,by unfold maxLen;omega,fun _=>⟨bl,0,rfl,fun i t hi=>by
 have hl:=h.l
 have hlt:=hl.lt
 unfold At at hl
 match i,hi with
 | 0,hi =>
  simp [hcl] at hi;subst hi
  exact ⟨⟨1,false,0,0,none,0,0⟩,⟨hlt,by simp [World.cell?,hl],by simp [World.cell?,hl],by simp [World.cell?,hl],by simp [World.cell?,hl],by simp [World.cell?,hl]⟩,TyAt.mkLeaf 1 0 (by omega) (by omega) (by omega) none 0⟩
 | 1,hi =>
  simp [hcl] at hi;subst hi
  exact ⟨⟨1,false,0,0,none,0,0⟩,⟨hlt,by simp [World.cell?,hl],by simp [World.cell?,hl],by simp [World.cell?,hl],by simp [World.cell?,hl],by simp [World.cell?,hl]⟩,TyAt.mkLeaf 1 0 (by omega) (by omega) (by omega) none 0⟩
 | 2,hi =>
  simp [hcl] at hi;subst hi
  exact ⟨⟨4,true,-1,0,some ⟨br,0,none⟩,1,1⟩,⟨hlt,by simp [World.cell?,hl],by simp [World.cell?,hl],by simp [World.cell?,hl],by simp [World.cell?,hl],by simp [World.cell?,hl]⟩,TyAt.mkOne 4 true (-1) 0 (by omega) (by omega) (by omega) (by omega) (by omega) br 0 1 ⟨1,false,0,0,none,0,0⟩ _ h.r.ty (TyAt.mkLeaf 1 0 (by omega) (by omega) (by omega) none 0)⟩
 | i+3,hi=>simp [hcl] at hi⟩⟩
theorem hand_unit {W:World} {bu bl br bn bp bq:Nat} (h:HandAt W bu bl br bn bp bq):UnAt W (some ⟨bu,0,none⟩) 1 [hG]:=⟨rfl,fun j g hj=>by
 match j,hj with
 | 0,hj =>
  simp at hj;subst hj
  refine ⟨bu,0,ByteArray.empty,0,none,0,0,0,some ⟨bl,0,none⟩,3,3,some ⟨bn,0,none⟩,3,3,some ⟨bp,0,none⟩,4,4,rfl,⟨h.u.lt,at_rng (l:=[.string ByteArray.empty,.int .i64 0,.slice none 0 0,.int .i64 0,.slice (some ⟨bl,0,none⟩) 3 3,.slice (some ⟨bn,0,none⟩) 3 3,.slice (some ⟨bp,0,none⟩) 4 4]) h.u _ _ (fun j v hj=>by simpa using hj)⟩,⟨rfl,rfl,⟨rfl,by omega,fun i o ho=>by simp [hG] at ho⟩,hand_locals h,by omega,rfl,hand_points h⟩⟩
 | j+1,hj=>simp at hj⟩
theorem hand_head:HdOk 0 true hG hcl where
 cnt:=by decide
 lo:=rfl
 ok:=fun c hc=>by
  simp [hcl] at hc
  rcases hc with rfl|rfl
  ·exact ⟨.inl ⟨.inl rfl,rfl⟩,⟨.inl ⟨.inl rfl,rfl⟩,by decide⟩⟩
  ·exact ⟨⟨by omega,.inl ⟨.inl rfl,rfl⟩⟩,⟨⟨by omega,.inl ⟨.inl rfl,rfl⟩⟩,by decide⟩⟩
 reg:=fun k c hk q hq=>by
  match k,hk with
  | 0,hk=>simp [hcl] at hk;subst hk;simp [Ch.regs] at hq
  | 1,hk=>simp [hcl] at hk;subst hk;simp [Ch.regs] at hq
  | 2,hk=>simp [hcl] at hk;subst hk;simp [Ch.regs] at hq;subst hq;exact ⟨by decide,.inr (by decide)⟩
  | k+3,hk=>simp [hcl] at hk
 out:=by decide
 loan:=by decide
 main:=fun _=>⟨rfl,rfl,fun c hc=>by simp [hcl] at hc;subst hc;rfl⟩
def hfc:Nat→List Ch:=fun _=>[]
theorem hand_ok (b1 b2 b3:Nat→Bool):UOk [] 0 (decide ((stRes 0 b1 b2 b3).2=0)) 1 0 [hG] where
 un:=by simp [unitB,stRes,fstB]
 hd:=fun j g hj=>by
  match j,hj with
  | 0,hj=>simp at hj;subst hj;exact ⟨hcl,hand_head⟩
  | j+1,hj=>simp at hj
 pt:=by
  refine ⟨hfc,[(0,hcl)],[(⟨hfc,hcl,dU [] 0,[(0,hcl)],4⟩,[hp0,hp1,hp2,hp3])],⟨⟨fun j hj=>by omega,fun j hj=>by omega,fun j hj=>rfl⟩,rfl,rfl,fun j g hj=>?_⟩,fun j x ps hj p hp=>?_⟩
  ·match j,hj with
   | 0,hj=>simp at hj;subst hj;exact ⟨hcl,hand_head,rfl,rfl⟩
   | j+1,hj=>simp at hj
  ·match j,hj with
   | 0,hj =>
    simp at hj
    obtain ⟨rfl,rfl⟩:=hj
    simp at hp
    rcases hp with rfl|rfl|rfl|rfl
    ·rfl
    ·rfl
    ·rfl
    ·rfl
   | j+1,hj=>simp at hj
theorem hand_st (W:World):StAt W none 0 0 []:=⟨rfl,Nat.zero_le _,fun h=>absurd rfl h⟩
theorem hand_ug {W:World} {bu bl br bn bp bq:Nat} (h:HandAt W bu bl br bn bp bq):UG1 W none (some ⟨bu,0,none⟩) 0 0 1 1 0 [hG] 0 hG hcl hfc:=by
 obtain ⟨b1,b2,b3,hb⟩:=flt_ex []
 obtain ⟨cl,h1,h2⟩:=rgIn_of (hand_unit h) (hand_ok b1 b2 b3) (j:=0) (g:=hG) rfl
 have e:cl=hcl:=h2.uniq hand_head
 subst e
 exact ⟨fun V hV=>mayU_any (w:=V) (n:=0) (cap:=0) (a:=none) (ua:=some ⟨bu,0,none⟩) (un:=1) 1 (mn:=0) (hand_st V) hb (hand_unit (h.bel hV)) rfl true ⟨fun _=>hand_ok b1 b2 b3,fun _=>rfl⟩,h1,rfl⟩
end Go.Proofs.YtmjenlogbkbgnaaGreatDoor
