import Derived.Test.YtdlggpcakaofoaaGreatB14
namespace Go.Proofs.YtdlggpcakaofoaaGreat
open Go.RowKit Go.Shelf
set_option linter.unusedVariables false
set_option linter.unusedSimpArgs false
set_option maxRecDepth 100000
set_option maxHeartbeats 8000000
theorem fldAl_any (w:World) (nm:ByteArray) (kk:Nat) (mm:Bool) (rr ss:Int) (aa:Option Addr) (nn cc kk':Nat) (mm':Bool) (rr' ss':Int) (aa':Option Addr) (nn' cc':Nat) (x:Bool)
  (h:∀ W,Below w.heap.size w W→Calls Tryz.prog 34 #[tyV kk mm rr ss aa nn cc,tyV kk' mm' rr' ss' aa' nn' cc'] W fun e w'=>e=.returned (.bool x)∧Below W.heap.size W w') :
  Calls Tryz.prog 169 #[.agg #[.string nm,.int .u8 (kk:Int),.bool mm,.int .i64 rr,.int .i64 ss,.slice aa nn cc],tyV kk' mm' rr' ss' aa' nn' cc'] w fun e w'=>e=.returned (.bool x)∧Below w.heap.size w w':=by
 have H:=jH h
 have HB:Hid (∀ o1 o2,Below w.heap.size w ((w.alloc o1).alloc o2)):=fun o1 o2=>belA (belA bR)
 clear h
 go_enter Tryz.func169,Tryz.ntmps169
 go_wp2_with (go_at_call 34;refine (H.out _ (HB.out _ _)).mono ?_;rintro e w1 ⟨rfl,hb1⟩;have HF:=jH (jB (HB.out _ _) hb1);clear hb1)
 go_ret
 exact ⟨rfl,HF.out⟩
theorem eqF_any (w:World) (a a':Option Addr) (n n' cap cap':Nat) (cl dl:List Ch) (h:FdAt w a (cl.map Ch.ty)) (l1:n=cl.length) (h':LcAt w a' n' cap' (dl.map Ch.ty)) (hn:n≤2000000) (hn':n'≤2000000) (hc:∀ c∈cl,Ok c) (hd:∀ d∈dl,Ok d) (r:Bool) (hr:r=alikeL cl dl) :
  Calls Tryz.prog 168 #[.slice a n cap,.slice a' n' cap',fnV 169] w fun e w'=>e=.returned (.bool r)∧Below w.heap.size w w':=by
 have l2:n'=dl.length:=by have:=h'.len;rw [List.length_map] at this;exact this
 by_cases hl:n=n'
 rotate_left
 ·have hr2:r=false:=by rw [hr];exact alikeL_len (by omega)
  subst hr2
  have hl2:¬ (n:Int)=(n':Int):=by omega
  have hl3:((n:Int) == (n':Int))=false:=by simpa using hl2
  have hl4:((n:Int) != (n':Int))=true:=by simpa using hl2
  clear h h' hc hd hr l1 l2 hn hn'
  go_enter Tryz.func168,Tryz.ntmps168
  go_wp2_with fail
  go_ret
  exact ⟨rfl,Below.refl _ _⟩
 subst hl
 have CA:Hid (∀ (W:World) (i:Nat) (c d:Ch) (f g:Fv),Below w.heap.size w W→cl[i]?=some c→dl[i]?=some d→TyAt w f c.ty→TyAt w g d.ty→Calls Tryz.prog 34 #[f.v,g.v] W fun e w'=>e=.returned (.bool (alikeB c d))∧Below W.heap.size W w'):=fun W i c d f g hW h1 h2 h3 h4=>Alike_yes c d f g W (h3.bel hW) (h4.bel hW) (hc c (List.mem_of_getElem? h1)) (hd d (List.mem_of_getElem? h2))
 have HL:=jH (And.intro l1 l2)
 have H:=jH h
 have H':=jH h'
 have HR:=jH hr
 have n0:(n:Int)≤2000000:=by omega
 clear h h' l1 l2 hr hn hn' hc hd
 go_enter Tryz.func168,Tryz.ntmps168
 go_wp2_with fail
 go_loopw [17] (fun v V=>∃ i:Nat,i≤n∧v=.int .i64 (i:Int)∧(∀ j c d,j<i→cl[j]?=some c→dl[j]?=some d→alikeB c d=true)∧Below w.heap.size w V) (fun v _=>n - (intOf v).toNat)
 case atStart=>exact ⟨0,Nat.zero_le _,rfl,fun j c d hj=>by omega,Below.refl _ _⟩
 case round =>
  obtain ⟨i,hi,rfl,hall,hB⟩:=hrel
  have HA:=jH hall
  have HB:=jH hB
  clear hall hB
  by_cases hlt:i<n
  ·obtain ⟨c,hc⟩:∃ c,cl[i]?=some c:=⟨_,List.getElem?_eq_getElem (by have:=HL.out.1;omega)⟩
   obtain ⟨d,hd⟩:∃ d,dl[i]?=some d:=⟨_,List.getElem?_eq_getElem (by have:=HL.out.2;omega)⟩
   have hty:(cl.map Ch.ty)[i]?=some c.ty:=by rw [List.getElem?_map,hc];rfl
   have hty':(dl.map Ch.ty)[i]?=some d.ty:=by rw [List.getElem?_map,hd];rfl
   obtain ⟨g,off,ea,hk⟩:=H.out.2 (fun e=>by rw [e] at hty;simp at hty)
   obtain ⟨V,nm,hnm,hc5,hT⟩:=hk i c.ty hty
   replace hnm:=(HB.out.cell (p:=⟨g,off+i*6,none⟩) hc5.1).trans hnm
   obtain ⟨g',off',V',ea',hc5',hT'⟩:=H'.out.one hty'
   have ea2:a=some ⟨g,off,none⟩:=ea
   have ea2':a'=some ⟨g',off',none⟩:=ea'
   subst ea2
   subst ea2'
   obtain ⟨hg,p0,p1,p2,p3,p4⟩:=hc5.below HB.out
   obtain ⟨hg',q0,q1,q2,q3,q4⟩:=hc5'.below HB.out
   obtain ⟨kk,mm,rr,ss,aa,nn,cc⟩:=V
   obtain ⟨kk',mm',rr',ss',aa',nn',cc'⟩:=V'
   obtain ⟨x,hx⟩:∃ x,x=alikeB c d:=⟨_,rfl⟩
   have CC:Hid (∀ W,Below w.heap.size w W→Calls Tryz.prog 169 #[.agg #[.string nm,.int .u8 (kk:Int),.bool mm,.int .i64 rr,.int .i64 ss,.slice aa nn cc],tyV kk' mm' rr' ss' aa' nn' cc'] W fun e w'=>e=.returned (.bool x)∧Below W.heap.size W w'):=fun W hW=>fldAl_any W nm kk mm rr ss aa nn cc kk' mm' rr' ss' aa' nn' cc' x (fun W2 hW2=>by rw [hx];exact CA.out W2 i c d ⟨kk,mm,rr,ss,aa,nn,cc⟩ ⟨kk',mm',rr',ss',aa',nn',cc'⟩ (jB hW hW2) hc hd hT hT')
   have i0:(0:Int)≤(i:Int):=by omega
   have i1:(i:Int)<(n:Int):=by omega
   have HLT:=jH hlt
   have HC:=jH hc
   have HD:=jH hd
   have HX:=jH hx
   have HBA:Hid (∀ o1 o2,Below w.heap.size w ((wr.alloc o1).alloc o2)):=fun o1 o2=>belA (belA HB.out)
   clear hk hc5 hc5' hT hT' hty hty' hc hd hlt ea ea' hi hx CA
   cases x with
   | true =>
    go_wp2_with (go_at_call 169;refine (CC.out _ (HBA.out _ _)).mono ?_;rintro e w1 ⟨rfl,hb1⟩;have HF:=jH (jB (HBA.out _ _) hb1);clear hb1)
    refine ⟨⟨i+1,HLT.out,rfl,fun j c' d' hj hc' hd'=>?_,HF.out⟩,?_⟩
    ·rcases Nat.lt_or_ge j i with h1|h1
     ·exact HA.out j c' d' h1 hc' hd'
     ·obtain rfl:j=i:=by omega
      have e1:=HC.out
      have e2:=HD.out
      rw [hc'] at e1
      rw [hd'] at e2
      cases e1
      cases e2
      exact HX.out.symm
    ·show n - ((i:Int)+1).toNat<n - (i:Int).toNat
     have:=HLT.out
     omega
   | false =>
    go_wp2_with (go_at_call 169;refine (CC.out _ (HBA.out _ _)).mono ?_;rintro e w1 ⟨rfl,hb1⟩;have HF:=jH (jB (HBA.out _ _) hb1);clear hb1)
    go_ret
    refine ⟨?_,HF.out⟩
    have:r=false:=by rw [HR.out];exact alikeL_no HC.out HD.out HX.out.symm
    rw [this]
    rfl
  ·obtain rfl:i=n:=by omega
   have lt:¬ (i:Int)<(i:Int):=by omega
   clear hlt hi CA
   go_wp2_with fail
   go_ret
   refine ⟨?_,HB.out⟩
   have:r=true:=by
    rw [HR.out,alikeL_iff]
    refine ⟨by have:=HL.out;omega,fun j c d hc hd=>HA.out j c d ?_ hc hd⟩
    have:=(List.getElem?_eq_some_iff.1 hc).1
    have:=HL.out.1
    omega
   rw [this]
   rfl
def mkB (fc:Nat→List Ch) (st:Int) (os:List Ch):Ch→Bool
 | .leaf k s=>decide (k=5) && decide (s=st) && alikeL (fc st.toNat) os
 | _=>false
theorem make_any {w0 w:World} (hB0:Below w0.heap.size w0 w) (b:Nat) (st:Int) (a oa:Option Addr) (n cap on ocap:Nat) (k:Nat) (m:Bool) (q s:Int) (fa:Option Addr) (fn fcap:Nat)
  (hcs:∀ W,Below w.heap.size w W→W.cell? ⟨b,17,none⟩=some (.int .i64 st)∧W.cell? ⟨b,21,none⟩=some (.slice a n cap)∧W.cell? ⟨b,77,none⟩=some (.slice oa on ocap)∧W.cell? ⟨b,63,none⟩=some (.int .u8 (k:Int))∧W.cell? ⟨b,64,none⟩=some (.bool m)∧W.cell? ⟨b,65,none⟩=some (.int .i64 q)∧W.cell? ⟨b,66,none⟩=some (.int .i64 s)∧W.cell? ⟨b,67,none⟩=some (.slice fa fn fcap))
  {fc:Nat→List Ch} (hS:SF w0 a n cap fc) (hF:∀ j,j<n→∀ c∈fc j,Ok c) (os:List Ch) (hL:LcAt w oa on ocap (os.map Ch.ty)) (hon:on≤2000000) (hO:∀ c∈os,Ok c) (c:Ch) (hc:c.ok n) (hT:TyAt w ⟨k,m,q,s,fa,fn,fcap⟩ c.ty)
  (r:Bool) (hr:r=mkB fc st os c) :
  Calls Tryz.prog 146 #[.pointer (some ⟨b,0,none⟩)] w fun e w'=>e=.returned (.bool r)∧Below w.heap.size w w':=by
 have hk:=kind_at hT
 have hk2:k=kindC c:=hk
 by_cases k5:k=5
 rotate_left
 ·have hr2:r=false:=by
   cases c with
   | leaf k' s' =>
    have:k'≠5:=fun e=>k5 (by rw [hk2];exact e)
    rw [hr];simp [mkB,this]
   | box d=>exact hr
   | ref m r d=>exact hr
  subst hr2
  have k1:¬ (k:Int)=5:=by omega
  have k2:((k:Int) == 5)=false:=by simpa using k1
  have k3:((k:Int) != 5)=true:=by simpa using k1
  have HC:=jH hcs
  clear hcs hr hS hF hL hO hc hT hk hk2 hB0
  obtain ⟨c17,c21,c77,c63,c64,c65,c66,c67⟩:=HC.out _ bR
  go_enter Tryz.func146,Tryz.ntmps146
  go_upto_region 2 with ((with_reducible show wpList _ _ _ (Oper.mk none (Op.store 46 _ _) _ _ _ none::_) _ _);refine wpl_storeT1 w.heap.size zT ⟨k,m,q,s,fa,fn,fcap⟩ (At.new w _) rfl rfl ?_;intro w9 hA9 hB9;have HF:=jH hA9;have HB9:Hid (Below w.heap.size w w9):=belBut (belA bR) hB9 (Nat.le_refl _) (by simp);clear hA9 hB9)
  clear c17 c21 c77 c63 c64 c65 c66 c67
  obtain ⟨c17,c21,c77,c63,c64,c65,c66,c67⟩:=HC.out _ HB9.out
  obtain ⟨-,y0,y1,y2,y3,y4⟩:=HF.out.ty
  simp only [Nat.zero_add] at y0 y1 y2 y3 y4
  have hlt:=HF.out.lt
  go_quiet (fail)
  go_wp2_with fail
  go_ret
  exact ⟨rfl,belN HB9.out _⟩
 subst k5
 obtain ⟨s',rfl⟩:∃ s',c=.leaf 5 s':=by
  cases c with
  | leaf k' s'=>exact ⟨s',by rw [show k'=5 from hk2.symm]⟩
  | box d=>cases hk2
  | ref m r d=>cases hk2
 obtain ⟨xa,xc,hfe,-⟩:=hT.leaf
 cases hfe
 have hk5:((5:Nat)=1∨(5:Nat)=2)∧s=0∨(5:Nat)=5∧0≤s∧s<n:=hc
 obtain ⟨j,rfl⟩:∃ j:Nat,s=(j:Int):=⟨s.toNat,by omega⟩
 have hj:j<n:=by omega
 by_cases hst:st=(j:Int)
 rotate_left
 ·have hr2:r=false:=by rw [hr];show (decide ((5:Nat)=5) && decide ((j:Int)=st) && alikeL (fc st.toNat) os)=false;rw [decide_eq_false (p:=(j:Int)=st) (fun e=>hst e.symm)];rfl
  subst hr2
  have k2:((j:Int) == st)=false:=by simp;exact fun e=>hst e.symm
  have k3:((j:Int) != st)=true:=by simp;exact fun e=>hst e.symm
  have HC:=jH hcs
  clear hcs hr hS hF hL hO hc hT hk hk2 hB0 hk5 hst
  obtain ⟨c17,c21,c77,c63,c64,c65,c66,c67⟩:=HC.out _ bR
  go_enter Tryz.func146,Tryz.ntmps146
  go_upto_region 2 with ((with_reducible show wpList _ _ _ (Oper.mk none (Op.store 46 _ _) _ _ _ none::_) _ _);refine wpl_storeT1 w.heap.size zT ⟨5,false,0,(j:Int),fa,0,fcap⟩ (At.new w _) rfl rfl ?_;intro w9 hA9 hB9;have HF:=jH hA9;have HB9:Hid (Below w.heap.size w w9):=belBut (belA bR) hB9 (Nat.le_refl _) (by simp);clear hA9 hB9)
  clear c17 c21 c77 c63 c64 c65 c66 c67
  obtain ⟨c17,c21,c77,c63,c64,c65,c66,c67⟩:=HC.out _ HB9.out
  obtain ⟨-,y0,y1,y2,y3,y4⟩:=HF.out.ty
  simp only [Nat.zero_add] at y0 y1 y2 y3 y4
  have hlt:=HF.out.lt
  go_quiet (fail)
  go_wp2_with fail
  go_ret
  exact ⟨rfl,belN HB9.out _⟩
 subst hst
 have hr2:r=alikeL (fc j) os:=by rw [hr];simp [mkB]
 obtain ⟨g,off,ga,gcap,ea,hg,hcell,hFd⟩:=hS.st j hj
 have hlen:=hS.len j hj
 subst ea
 obtain ⟨gm,hgm⟩:∃ gm,gm=(fc j).length:=⟨_,rfl⟩
 rw [← hgm] at hcell hlen
 have CE:Hid (∀ W,Below w.heap.size w W→Calls Tryz.prog 168 #[.slice ga gm gcap,.slice oa on ocap,fnV 169] W fun e w'=>e=.returned (.bool r)∧Below W.heap.size W w'):=fun W hW=>eqF_any W ga oa gm on gcap ocap (fc j) os (hFd.bel (jB hB0 hW)) hgm (hL.bel hW) (by omega) hon (hF j hj) hO r hr2
 have HG:Hid (∀ W,Below w.heap.size w W→W.cell? ⟨g,off+j*2+1,none⟩=some (.slice ga gm gcap)):=fun W hW=>((jB hB0 hW).cell (p:=⟨g,off+j*2+1,none⟩) hg).trans hcell
 have HC:=jH hcs
 have j0:(0:Int)≤(j:Int):=by omega
 have j1:(j:Int)<(n:Int):=by omega
 have j2:(j:Int)≤32:=by have:=hS.le;omega
 have k2:((j:Int) == (j:Int))=true:=by simp
 have k3:((j:Int) != (j:Int))=false:=by simp
 clear hcs hr hr2 hS hF hL hO hc hT hk hk2 hB0 hk5 hcell hFd hg hgm
 obtain ⟨c17,c21,c77,c63,c64,c65,c66,c67⟩:=HC.out _ bR
 go_enter Tryz.func146,Tryz.ntmps146
 go_upto_region 2 with ((with_reducible show wpList _ _ _ (Oper.mk none (Op.store 46 _ _) _ _ _ none::_) _ _);refine wpl_storeT1 w.heap.size zT ⟨5,false,0,(j:Int),fa,0,fcap⟩ (At.new w _) rfl rfl ?_;intro w9 hA9 hB9;have HF:=jH hA9;have HB9:Hid (Below w.heap.size w w9):=belBut (belA bR) hB9 (Nat.le_refl _) (by simp);clear hA9 hB9)
 clear c17 c21 c77 c63 c64 c65 c66 c67
 obtain ⟨c17,c21,c77,c63,c64,c65,c66,c67⟩:=HC.out _ HB9.out
 obtain ⟨-,y0,y1,y2,y3,y4⟩:=HF.out.ty
 simp only [Nat.zero_add] at y0 y1 y2 y3 y4
 have hlt:=HF.out.lt
 go_quiet (fail)
 clear y0 y1 y2 y3 y4 c17 c21 c77 c63 c64 c65 c66 c67
 go_upto_region 4 with fail
 refine beginH (S:=fun V=>Below w9.heap.size w9 V) (fun _ _ _ _ _ h=>h) (by kernel_rfl) (belN (belN bR nq) 1) (fun hq hH=>?_)
 refine tz 0 22 (.pointer (some ⟨b,0,none⟩)) hq rfl rfl hH ?_
 simp only [pb,pc]
 refine tz 1 23 (.pointer (some ⟨b,0,none⟩)) hq rfl rfl hH ?_
 simp only [pb,pc]
 refine tz 2 24 (.pointer (some ⟨b,21,none⟩)) hq rfl rfl hH ?_
 simp only [pb,pc]
 refine tz 3 25 (.pointer (some ⟨b,21,none⟩)) hq rfl rfl hH ?_
 simp only [pb,pc]
 refine tq 4 26 (.slice (some ⟨g,off,none⟩) n cap) hq rfl rfl (fun W hSw=>by (obtain ⟨c17,c21,c77,c63,c64,c65,c66,c67⟩:=HC.out _ (jB HB9.out hSw);have gc:=HG.out _ (jB HB9.out hSw);go_simp;try rfl)) hH ?_
 simp only [pb,pc]
 refine tz 5 27 (.pointer (some ⟨b,0,none⟩)) hq rfl rfl hH ?_
 simp only [pb,pc]
 refine tz 6 28 (.pointer (some ⟨b,0,none⟩)) hq rfl rfl hH ?_
 simp only [pb,pc]
 refine tz 7 29 (.pointer (some ⟨b,0,none⟩)) hq rfl rfl hH ?_
 simp only [pb,pc]
 refine tz 8 30 (.pointer (some ⟨b,17,none⟩)) hq rfl rfl hH ?_
 simp only [pb,pc]
 refine tq 9 31 (.int .i64 (j:Int)) hq rfl rfl (fun W hSw=>by (obtain ⟨c17,c21,c77,c63,c64,c65,c66,c67⟩:=HC.out _ (jB HB9.out hSw);have gc:=HG.out _ (jB HB9.out hSw);go_simp;try rfl)) hH ?_
 simp only [pb,pc]
 refine tz 10 32 (.pointer (some ⟨g,off+j*2,none⟩)) hq rfl rfl hH ?_
 simp only [pb,pc]
 refine tz 11 33 (.pointer (some ⟨g,off+j*2+1,none⟩)) hq rfl rfl hH ?_
 simp only [pb,pc]
 refine tq 12 34 (.slice ga gm gcap) hq rfl rfl (fun W hSw=>by (obtain ⟨c17,c21,c77,c63,c64,c65,c66,c67⟩:=HC.out _ (jB HB9.out hSw);have gc:=HG.out _ (jB HB9.out hSw);go_simp;try rfl)) hH ?_
 simp only [pb,pc]
 refine tz 13 35 (.pointer (some ⟨b,0,none⟩)) hq rfl rfl hH ?_
 simp only [pb,pc]
 refine tz 14 36 (.pointer (some ⟨b,0,none⟩)) hq rfl rfl hH ?_
 simp only [pb,pc]
 refine tz 15 37 (.pointer (some ⟨b,77,none⟩)) hq rfl rfl hH ?_
 simp only [pb,pc]
 refine tq 16 38 (.slice oa on ocap) hq rfl rfl (fun W hSw=>by (obtain ⟨c17,c21,c77,c63,c64,c65,c66,c67⟩:=HC.out _ (jB HB9.out hSw);have gc:=HG.out _ (jB HB9.out hSw);go_simp;try rfl)) hH ?_
 simp only [pb,pc]
 refine aR1 17 rfl (fun K hK=>?_)
 go_simp
 refine (CE.out _ (jB HB9.out (belN bR (nq+1)))).mono ?_
 rintro e v1 ⟨rfl,hb1⟩
 have hS1:Below w9.heap.size w9 v1:=jB (belN bR (nq+1)) hb1
 go_wp2_with fail
 refine hK.out _ _ hS1 (fun hH=>?_)
 clear hK K
 try simp only [Act.put,List.setIfInBounds_toArray,pb,pc]
 have HS1:=jH hS1
 clear hb1 hS1
 refine tz 18 2 (.bool r) hq rfl rfl hH ?_
 simp only [pb,pc]
 refine wpAnyH_done (by kernel_rfl) ?_ _
 go_wp2_with fail
 go_ret
 exact ⟨rfl,jB HB9.out HS1.out⟩
abbrev uV (a:Option Addr) (n cap:Nat) (ua:Option Addr) (un ucap:Nat) (mn:Int):Value:=.agg #[.slice a n cap,.slice ua un ucap,.int .i64 mn]
abbrev uO (a:Option Addr) (n cap:Nat) (ua:Option Addr) (un ucap:Nat) (mn:Int):Obj:=.cells #[.slice a n cap,.slice ua un ucap,.int .i64 mn] 25 (0,0)
theorem At.un {w:World} {b:Nat} {a:Option Addr} {n cap:Nat} {ua:Option Addr} {un ucap:Nat} {mn:Int} (h:At w b (uO a n cap ua un ucap mn)):w.cell? ⟨b,0,none⟩=some (.slice a n cap)∧w.cell? ⟨b,1,none⟩=some (.slice ua un ucap)∧w.cell? ⟨b,2,none⟩=some (.int .i64 mn):=by
 unfold At at h
 exact ⟨by simp [World.cell?,h],by simp [World.cell?,h],by simp [World.cell?,h]⟩
def unitB (so:Bool) (un:Nat) (mn:Int):Bool:=so && decide (un≤32) && decide (0≤mn) && decide (mn<(un:Int))
def fltV (ok:Bool):Value:=if ok then .tuple #[.int .i64 0,.int .i64 0,.bool false] else .tuple #[.int .i64 (-1),.int .i64 (-1),.bool true]
theorem unitFault_any (w:World) (a ua:Option Addr) (n cap un ucap:Nat) (mn:Int) (ss:List (List Ty)) (h:StAt w a n cap ss) (b1 b2 b3:Nat→Bool) (hb:Flt ss b1 b2 b3) (ok:Bool) (hok:ok=unitB (decide ((stRes n b1 b2 b3).2=0)) un mn) :
  Calls Tryz.prog 83 #[uV a n cap ua un ucap mn] w fun e w'=>e=.returned (fltV ok)∧Below w.heap.size w w':=by
 have HA:Hid (At (w.alloc (uO a n cap ua un ucap mn)) w.heap.size (uO a n cap ua un ucap mn)):=At.new _ _
 have HB0:Hid (Below w.heap.size w (w.alloc (uO a n cap ua un ucap mn))):=belA bR
 have CS0:∀ W,Below w.heap.size w W→Calls Tryz.prog 100 #[.slice a n cap] W fun e w'=>e=.returned (.tuple #[.int .i64 ((stRes n b1 b2 b3).1:Int),.int .i64 ((stRes n b1 b2 b3).2:Int)])∧Below W.heap.size W w':=fun W hW=>Structs_any a n cap ss W (h.bel hW) b1 b2 b3 hb
 obtain ⟨x,hx⟩:∃ x,x=(stRes n b1 b2 b3).1:=⟨_,rfl⟩
 obtain ⟨y,hy⟩:∃ y,y=(stRes n b1 b2 b3).2:=⟨_,rfl⟩
 rw [← hx,← hy] at CS0
 rw [← hy] at hok
 have CS:=jH CS0
 clear CS0 hx hy h hb
 by_cases hy0:y=0
 ·subst hy0
  by_cases hu:un≤32
  ·have u1:¬ (32:Int)<(un:Int):=by omega
   by_cases hm:0≤mn
   ·have m1:¬ mn<0:=by omega
    by_cases hm2:mn<(un:Int)
    ·have m2:¬ (un:Int)≤mn:=by omega
     have e1:ok=true:=by rw [hok];simp [unitB,hu,hm,hm2]
     subst e1
     clear hok hu hm hm2
     show Calls Tryz.prog 83 _ w fun e w'=>e=.returned (.tuple #[.int .i64 0,.int .i64 0,.bool false])∧Below w.heap.size w w'
     go_enter Tryz.func83,Tryz.ntmps83
     go_wp2_with (go_at_call 100;refine (CS.out _ HB0.out).mono ?_;rintro e w1 ⟨rfl,hb1⟩;have HF:=jH (jB HB0.out hb1);have HA1:=jH (HA.out.below hb1);obtain ⟨d0,d1,d2⟩:=HA1.out.un;clear hb1)
     go_ret3
     exact ⟨rfl,HF.out⟩
    ·have m2:(un:Int)≤mn:=by omega
     have e1:ok=false:=by rw [hok];simp [unitB,hm2]
     subst e1
     clear hok hu hm hm2
     show Calls Tryz.prog 83 _ w fun e w'=>e=.returned (.tuple #[.int .i64 (-1),.int .i64 (-1),.bool true])∧Below w.heap.size w w'
     go_enter Tryz.func83,Tryz.ntmps83
     go_wp2_with (go_at_call 100;refine (CS.out _ HB0.out).mono ?_;rintro e w1 ⟨rfl,hb1⟩;have HF:=jH (jB HB0.out hb1);have HA1:=jH (HA.out.below hb1);obtain ⟨d0,d1,d2⟩:=HA1.out.un;clear hb1)
     go_ret3
     exact ⟨rfl,HF.out⟩
   ·have m1:mn<0:=by omega
    have e1:ok=false:=by rw [hok];simp [unitB,hm]
    subst e1
    clear hok hu hm
    show Calls Tryz.prog 83 _ w fun e w'=>e=.returned (.tuple #[.int .i64 (-1),.int .i64 (-1),.bool true])∧Below w.heap.size w w'
    go_enter Tryz.func83,Tryz.ntmps83
    go_wp2_with (go_at_call 100;refine (CS.out _ HB0.out).mono ?_;rintro e w1 ⟨rfl,hb1⟩;have HF:=jH (jB HB0.out hb1);have HA1:=jH (HA.out.below hb1);obtain ⟨d0,d1,d2⟩:=HA1.out.un;clear hb1)
    go_ret3
    exact ⟨rfl,HF.out⟩
  ·have u1:(32:Int)<(un:Int):=by omega
   have e1:ok=false:=by rw [hok];simp [unitB,hu]
   subst e1
   clear hok hu
   show Calls Tryz.prog 83 _ w fun e w'=>e=.returned (.tuple #[.int .i64 (-1),.int .i64 (-1),.bool true])∧Below w.heap.size w w'
   go_enter Tryz.func83,Tryz.ntmps83
   go_wp2_with (go_at_call 100;refine (CS.out _ HB0.out).mono ?_;rintro e w1 ⟨rfl,hb1⟩;have HF:=jH (jB HB0.out hb1);have HA1:=jH (HA.out.below hb1);obtain ⟨d0,d1,d2⟩:=HA1.out.un;clear hb1)
   go_ret3
   exact ⟨rfl,HF.out⟩
 ·have y1:¬ (y:Int)=0:=by omega
  have y2:((y:Int) == 0)=false:=by simpa using y1
  have y3:((y:Int) != 0)=true:=by simpa using y1
  have e1:ok=false:=by rw [hok];simp [unitB,hy0]
  subst e1
  clear hok hy0
  show Calls Tryz.prog 83 _ w fun e w'=>e=.returned (.tuple #[.int .i64 (-1),.int .i64 (-1),.bool true])∧Below w.heap.size w w'
  go_enter Tryz.func83,Tryz.ntmps83
  go_wp2_with (go_at_call 100;refine (CS.out _ HB0.out).mono ?_;rintro e w1 ⟨rfl,hb1⟩;have HF:=jH (jB HB0.out hb1);have HA1:=jH (HA.out.below hb1);obtain ⟨d0,d1,d2⟩:=HA1.out.un;clear hb1)
  go_ret3
  exact ⟨rfl,HF.out⟩
abbrev hV (nm:ByteArray) (lv:Int) (oa:Option Addr) (on oc:Nat) (pa:Int) (la:Option Addr) (ln lc:Nat) (na:Option Addr) (nn nc:Nat) (qa:Option Addr) (qn qc:Nat) (sa:Option Addr) (sn sc:Nat) (im:Bool):Value:=.agg #[.string nm,.int .i64 lv,.slice oa on oc,.int .i64 pa,.slice la ln lc,.slice na nn nc,.slice qa qn qc,.slice sa sn sc,.bool im]
def cntB (lv pa:Int) (ln nn qn:Nat):Bool:=decide (0≤lv) && decide (lv≤8) && decide (0≤pa) && decide (pa≤8) && decide (pa<(ln:Int)) && decide (ln≤512) && decide (nn=ln) && decide (1≤qn) && decide (qn≤1024)
theorem counts_any (nm:ByteArray) (lv:Int) (oa:Option Addr) (on oc:Nat) (pa:Int) (la:Option Addr) (ln lc:Nat) (na:Option Addr) (nn nc:Nat) (qa:Option Addr) (qn qc:Nat) (sa:Option Addr) (sn sc:Nat) (im:Bool) (w:World) (r:Bool) (hr:r=cntB lv pa ln nn qn):Calls Tryz.prog 101 #[hV nm lv oa on oc pa la ln lc na nn nc qa qn qc sa sn sc im] w fun e w'=>e=.returned (.bool r)∧Below w.heap.size w w':=by
 by_cases g0:0≤lv
 rotate_left
 ·have e1:r=false:=by rw [hr];simp [cntB,g0]
  subst e1
  have f0_0:lv<0:=by omega
  clear hr g0
  go_enter Tryz.func101,Tryz.ntmps101
  go_wp2_with fail
  go_ret
  exact ⟨rfl,belA bR⟩
 have f0_0:¬ lv<0:=by omega
 by_cases g1:lv≤8
 rotate_left
 ·have e1:r=false:=by rw [hr];simp [cntB,g1]
  subst e1
  have f1_0:(8:Int)<lv:=by omega
  clear hr g0 g1
  go_enter Tryz.func101,Tryz.ntmps101
  go_wp2_with fail
  go_ret
  exact ⟨rfl,belA bR⟩
 have f1_0:¬ (8:Int)<lv:=by omega
 by_cases g2:0≤pa
 rotate_left
 ·have e1:r=false:=by rw [hr];simp [cntB,g2]
  subst e1
  have f2_0:pa<0:=by omega
  clear hr g0 g1 g2
  go_enter Tryz.func101,Tryz.ntmps101
  go_wp2_with fail
  go_ret
  exact ⟨rfl,belA bR⟩
 have f2_0:¬ pa<0:=by omega
 by_cases g3:pa≤8
 rotate_left
 ·have e1:r=false:=by rw [hr];simp [cntB,g3]
  subst e1
  have f3_0:(8:Int)<pa:=by omega
  clear hr g0 g1 g2 g3
  go_enter Tryz.func101,Tryz.ntmps101
  go_wp2_with fail
  go_ret
  exact ⟨rfl,belA bR⟩
 have f3_0:¬ (8:Int)<pa:=by omega
 by_cases g4:pa<(ln:Int)
 rotate_left
 ·have e1:r=false:=by rw [hr];simp [cntB,g4]
  subst e1
  have f4_0:(ln:Int)≤pa:=by omega
  clear hr g0 g1 g2 g3 g4
  go_enter Tryz.func101,Tryz.ntmps101
  go_wp2_with fail
  go_ret
  exact ⟨rfl,belA bR⟩
 have f4_0:¬ (ln:Int)≤pa:=by omega
 by_cases g5:ln≤512
 rotate_left
 ·have e1:r=false:=by rw [hr];simp [cntB,g5]
  subst e1
  have f5_0:(512:Int)<(ln:Int):=by omega
  clear hr g0 g1 g2 g3 g4 g5
  go_enter Tryz.func101,Tryz.ntmps101
  go_wp2_with fail
  go_ret
  exact ⟨rfl,belA bR⟩
 have f5_0:¬ (512:Int)<(ln:Int):=by omega
 by_cases g6:nn=ln
 rotate_left
 ·have e1:r=false:=by rw [hr];simp [cntB,g6]
  subst e1
  have f6_0:((nn:Int) == (ln:Int))=false:=by simp;omega
  have f6_1:((nn:Int) != (ln:Int))=true:=by simp;omega
  have f6_2:¬ (nn:Int)=(ln:Int):=by omega
  clear hr g0 g1 g2 g3 g4 g5 g6
  go_enter Tryz.func101,Tryz.ntmps101
  go_wp2_with fail
  go_ret
  exact ⟨rfl,belA bR⟩
 have f6_0:((nn:Int) == (ln:Int))=true:=by simp;omega
 have f6_1:((nn:Int) != (ln:Int))=false:=by simp;omega
 by_cases g7:1≤qn
 rotate_left
 ·have e1:r=false:=by rw [hr];simp [cntB,g7]
  subst e1
  have f7_0:¬ (1:Int)≤(qn:Int):=by omega
  clear hr g0 g1 g2 g3 g4 g5 g6 g7
  go_enter Tryz.func101,Tryz.ntmps101
  go_wp2_with fail
  go_ret
  exact ⟨rfl,belA bR⟩
 have f7_0:(1:Int)≤(qn:Int):=by omega
 by_cases g8:qn≤1024
 rotate_left
 ·have e1:r=false:=by rw [hr];simp [cntB,g8]
  subst e1
  have f8_0:¬ (qn:Int)≤1024:=by omega
  clear hr g0 g1 g2 g3 g4 g5 g6 g7 g8
  go_enter Tryz.func101,Tryz.ntmps101
  go_wp2_with fail
  go_ret
  exact ⟨rfl,belA bR⟩
 have f8_0:(qn:Int)≤1024:=by omega
 have e1:r=true:=by rw [hr];simp [cntB,g0,g1,g2,g3,g4,g5,g6,g7,g8]
 subst e1
 clear hr g0 g1 g2 g3 g4 g5 g6 g7 g8
 go_enter Tryz.func101,Tryz.ntmps101
 go_wp2_with fail
 go_ret
 exact ⟨rfl,belA bR⟩
theorem main_any (nm:ByteArray) (lv:Int) (oa:Option Addr) (on oc:Nat) (pa:Int) (la:Option Addr) (ln lc:Nat) (na:Option Addr) (nn nc:Nat) (qa:Option Addr) (qn qc:Nat) (sa:Option Addr) (sn sc:Nat) (im:Bool) (w:World) (g off k:Nat) (hla:la=some ⟨g,off,none⟩) (hg:g<w.heap.size) (hc:w.cell? ⟨g,off,none⟩=some (.int .u8 (k:Int))) (hl:0<ln) (hl2:ln≤512) (r:Bool) (hr:r=(!im || (decide (lv=0) && decide (pa=0) && decide (k=1)))):Calls Tryz.prog 105 #[hV nm lv oa on oc pa la ln lc na nn nc qa qn qc sa sn sc im] w fun e w'=>e=.returned (.bool r)∧Below w.heap.size w w':=by
 subst hla
 have l0:(0:Int)<(ln:Int):=by omega
 have l1:(ln:Int)≤512:=by omega
 cases im with
 | false =>
  have e1:r=true:=hr
  subst e1
  clear hr
  go_enter Tryz.func105,Tryz.ntmps105
  go_wp2_with fail
  go_ret
  exact ⟨rfl,belA bR⟩
 | true =>
  by_cases h1:lv=0
  ·subst h1
   by_cases h2:pa=0
   ·subst h2
    by_cases h3:k=1
    ·subst h3
     have e1:r=true:=by rw [hr];rfl
     subst e1
     have hc':w.cell? ⟨g,off,none⟩=some (.int .u8 1):=hc
     clear hr hc
     go_enter Tryz.func105,Tryz.ntmps105
     go_wp2_with fail
     go_ret
     exact ⟨rfl,belA bR⟩
    ·have e1:r=false:=by rw [hr,decide_eq_false h3];rfl
     subst e1
     have k1:¬ (k:Int)=1:=by omega
     have k2:((k:Int) == 1)=false:=by simpa using k1
     clear hr h3
     go_enter Tryz.func105,Tryz.ntmps105
     go_wp2_with fail
     go_ret
     exact ⟨rfl,belA bR⟩
   ·have e1:r=false:=by rw [hr,decide_eq_false h2];rfl
    subst e1
    have k2:(pa == 0)=false:=by simpa using h2
    clear hr
    go_enter Tryz.func105,Tryz.ntmps105
    go_wp2_with fail
    go_ret
    exact ⟨rfl,belA bR⟩
  ·have e1:r=false:=by rw [hr,decide_eq_false h1];rfl
   subst e1
   have k2:(lv == 0)=false:=by simpa using h1
   clear hr
   go_enter Tryz.func105,Tryz.ntmps105
   go_wp2_with fail
   go_ret
   exact ⟨rfl,belA bR⟩
theorem isLife_any (nm:ByteArray) (lv:Int) (oa:Option Addr) (on oc:Nat) (pa:Int) (la:Option Addr) (ln lc:Nat) (na:Option Addr) (nn nc:Nat) (qa:Option Addr) (qn qc:Nat) (sa:Option Addr) (sn sc:Nat) (im:Bool) (x:Int) (w:World) (r:Bool) (hr:r=(decide (0≤x) && decide (x<lv))):Calls Tryz.prog 135 #[hV nm lv oa on oc pa la ln lc na nn nc qa qn qc sa sn sc im,.int .i64 x] w fun e w'=>e=.returned (.bool r)∧Below w.heap.size w w':=by
 by_cases h1:0≤x
 ·by_cases h2:x<lv
  ·have e1:r=true:=by rw [hr,decide_eq_true h1,decide_eq_true h2];rfl
   subst e1
   clear hr
   go_enter Tryz.func135,Tryz.ntmps135
   go_wp2_with fail
   go_ret
   exact ⟨rfl,belA bR⟩
  ·have e1:r=false:=by rw [hr,decide_eq_false h2,Bool.and_false]
   subst e1
   clear hr
   go_enter Tryz.func135,Tryz.ntmps135
   go_wp2_with fail
   go_ret
   exact ⟨rfl,belA bR⟩
 ·have e1:r=false:=by rw [hr,decide_eq_false h1];rfl
  subst e1
  clear hr
  go_enter Tryz.func135,Tryz.ntmps135
  go_wp2_with fail
  go_ret
  exact ⟨rfl,belA bR⟩
theorem rises_any (a1 a2 b1 b2:Int) (w:World) (r:Bool) (hr:r=(decide (a1<b1) || decide (a1=b1) && decide (a2<b2))):Calls Tryz.prog 136 #[.agg #[.int .i64 a1,.int .i64 a2],.agg #[.int .i64 b1,.int .i64 b2]] w fun e w'=>e=.returned (.bool r)∧Below w.heap.size w w':=by
 by_cases h1:a1<b1
 ·have e1:r=true:=by rw [hr,decide_eq_true h1];rfl
  subst e1
  clear hr
  go_enter Tryz.func136,Tryz.ntmps136
  go_wp2_with fail
  go_ret
  exact ⟨rfl,belA (belA bR)⟩
 ·by_cases h2:a1=b1
  ·have k2:(a1 == b1)=true:=by simpa using h2
   by_cases h3:a2<b2
   ·have e1:r=true:=by rw [hr,decide_eq_false h1,decide_eq_true h2,decide_eq_true h3];rfl
    subst e1
    clear hr h2
    go_enter Tryz.func136,Tryz.ntmps136
    go_wp2_with fail
    go_ret
    exact ⟨rfl,belA (belA bR)⟩
   ·have e1:r=false:=by rw [hr,decide_eq_false h1,decide_eq_false h3,Bool.and_false];rfl
    subst e1
    clear hr h2
    go_enter Tryz.func136,Tryz.ntmps136
    go_wp2_with fail
    go_ret
    exact ⟨rfl,belA (belA bR)⟩
  ·have k2:(a1 == b1)=false:=by simpa using h2
   have e1:r=false:=by rw [hr,decide_eq_false h1,decide_eq_false h2];rfl
   subst e1
   clear hr
   go_enter Tryz.func136,Tryz.ntmps136
   go_wp2_with fail
   go_ret
   exact ⟨rfl,belA (belA bR)⟩
end Go.Proofs.YtdlggpcakaofoaaGreat
