import Derived.Test.YtdlggpcakaofoaaGreatU01
namespace Go.Proofs.YtdlggpcakaofoaaGreat
open Go.RowKit Go.Shelf
set_option linter.unusedVariables false
set_option linter.unusedSimpArgs false
set_option maxRecDepth 100000
set_option maxHeartbeats 16000000
theorem cst7 {w:World} {g:Nat} {nm:ByteArray} {lv:Int} {oa:Option Addr} {on oc:Nat} {pa:Int} {la:Option Addr} {ln lc:Nat} {na:Option Addr} {nn nc:Nat} {qa:Option Addr} {qn qc:Nat} (h:C7 w g 0 nm lv oa on oc pa la ln lc na nn nc qa qn qc):w.cell? ⟨g,1,none⟩=some (.int .i64 lv)∧w.cell? ⟨g,4,none⟩=some (.slice la ln lc)∧w.cell? ⟨g,6,none⟩=some (.slice qa qn qc):=⟨h.2 1 _ rfl,h.2 4 _ rfl,h.2 6 _ rfl⟩
theorem num_rg {fr:Int} {lv:Int} (h0:0≤fr) (h1:fr≤100000) (hl:lv≤8):∀ (c:Ch) (l:List Int),c.ok 32→l.length+c.regs.length≤1000→(∀ q∈c.regs,q<lv)→(turnC (outN fr) l c).rg
 | .leaf k s,l,h,_,_=>by
  rcases h with ⟨h,h'⟩|⟨h,h',h''⟩
  ·exact ⟨by rcases h with h|h <;> omega,by omega,by omega⟩
  ·exact ⟨by omega,by omega,by omega⟩
 | .box c,l,h,h2,h3=>num_rg h0 h1 hl c l h h2 h3
 | .ref m r c,l,h,h2,h3=>by
  simp only [Ch.regs,List.length_cons] at h2
  have hn:=negs_le l
  have hr:=h3 r (by simp [Ch.regs])
  have h5:=h.1
  refine ⟨?_,num_rg h0 h1 hl c _ h.2 (by simp only [List.length_append,List.length_cons,List.length_nil];omega) (fun q hq=>h3 q (by simp [Ch.regs,hq]))⟩
  unfold outN
  split <;> omega
theorem once_main {w:World} {a ua:Option Addr} {n cap un ucap:Nat} {mn:Int} {gs:List Grp} {j:Nat} {g:Grp} {cl:List Ch} {fc:Nat→List Ch} (h:UG1 w a ua n cap un ucap mn gs j g cl fc) (hreg:∀ (k:Nat) (c:Ch),cl[k]?=some c→∀ q∈c.regs,q<g.lv) (hF:∀ W,Below w.heap.size w W→Calls Tryz.prog 8 #[uV a n cap ua un ucap mn] W fun e w'=>e=.returned (.bool true)∧Below W.heap.size W w') (hc:cntP gs (cntL g.lv cl) g.pt≤512) :
  Calls Tryz.prog 6 #[uV a n cap ua un ucap mn,.int .i64 (j:Int)] w fun e w'=>e=.returned (.bool true)∧Below w.heap.size w w':=by
 have CA:Hid (∀ W,Calls Tryz.prog 9 #[] W fun e w'=>e=.returned (.bool true)∧Below W.heap.size W w'):=awake_true
 obtain ⟨V,hV⟩:∃ V,V=w.alloc (uO a n cap ua un ucap mn):=⟨_,rfl⟩
 have hB:Below w.heap.size w V:=by rw [hV];exact belA bR
 have hz:Hid (V.heap.size=w.heap.size+1):=jH (by rw [hV];simp only [World.size_alloc])
 have A2:Hid (At V w.heap.size (uO a n cap ua un ucap mn)):=jH (by rw [hV];exact At.new _ _)
 have CF:=jH (hF V hB)
 have CM:Hid (∀ W,Below V.heap.size V W→Calls Tryz.prog 32 #[uV a n cap ua un ucap mn] W fun e w'=>e=.returned (.bool true)∧Below W.heap.size W w'):=jH fun W hW=>h.may W (jB hB hW)
 obtain ⟨ug,uo,nm,oa,on,oc,pa,la,ln,lc,na,nn,nc,qa,qn,qc,ea,hC7,hLc,hPs⟩:=h.rg.ex
 have hll:ln=cl.length:=by have:=hLc.len;rw [List.length_map] at this;exact this
 have hqq:qn=g.pt.length:=hPs.len
 obtain ⟨lv,hlv⟩:∃ lv,lv=g.lv:=⟨_,rfl⟩
 have hmd:∀ p∈g.pt,0≤made gs p:=fun p hp=>(h.rg.few hp).1
 have hm8:∀ p∈g.pt,made gs p≤8:=fun p hp=>(h.rg.few hp).2
 have lv0:0≤lv:=by rw [hlv];exact h.rg.lv0
 have lv8:lv≤8:=by rw [hlv];exact h.rg.lv8
 rw [← hlv] at hc hC7 hreg
 have cm0:=(cntL_mono cl 0 lv).2
 have cm1:=(cntP_mono gs g.pt 0 (cntL lv cl) hmd).2
 simp only [List.take_zero,cntL,cntP] at cm0 cm1
 obtain ⟨cn,hcn⟩:∃ cn:Nat,cntP gs (cntL lv cl) g.pt=(cn:Int):=⟨(cntP gs (cntL lv cl) g.pt).toNat,by omega⟩
 have CO:Hid (∀ W,Below V.heap.size V W→Calls Tryz.prog 11 #[uV a n cap ua un ucap mn,.int .i64 (j:Int)] W fun e w'=>(∃ aL cL aA cA,e=.returned (.tuple #[rgV lv qn cn (.slice aL ln cL) (.slice aA qn cA),.int .i64 0])∧RgIs W w' gs g cl aL cL aA cA)∧Below W.heap.size W w'):=jH fun W hW=>(Of_yes (h.bel (jB hB hW)) (by rw [← hlv];exact hc)).mono fun e w' k=>by
  obtain ⟨aL,cL,aA,cA,h1,h2,h3⟩:=k
  rw [← hlv,hcn,← hll,← hqq] at h1
  exact ⟨⟨aL,cL,aA,cA,h1,h2⟩,h3⟩
 have HLV:=jH hlv
 have HC7:=jH hC7
 have HLC:=jH hLc
 have HPS:=jH hPs
 have HLL:=jH hll
 have HQQ:=jH hqq
 have HMD:=jH hmd
 have HM8:=jH hm8
 have HCN:=jH hcn
 have HREG:=jH hreg
 have HRG:=jH h.rg
 have ln5:(ln:Int)≤512:=by have:=h.rg.cln;omega
 have qn5:(qn:Int)≤1024:=by have:=h.rg.ptn;omega
 have u32:(un:Int)≤32:=by have:=h.rg.un32;omega
 have j0:(0:Int)≤(j:Int):=by omega
 have j1:(j:Int)<(un:Int):=by have:=h.rg.jn;omega
 have c5:(cn:Int)≤512:=by omega
 have c0:(0:Int)≤(cn:Int):=by omega
 have HB:=jH hB
 have HV:=jH hV
 subst ea
 clear h hreg hF hc hB hV hC7 hLc hPs hll hqq hmd hm8 hcn hlv cm0 cm1
 go_enter Tryz.func6,Tryz.ntmps6
 go_upto_region 1 with fail
 change Code.wp _ _ _ _ (w.alloc (uO a n cap (some ⟨ug,uo,none⟩) un ucap mn))
 rw [← HV.out]
 clear HV
 obtain ⟨u0,u1,u2⟩:=A2.out.un
 go_upto_region 4 with (first
  | (go_at_call 8;refine CF.out.mono ?_;rintro e w1 ⟨rfl,hb1⟩;have HB1:=jH hb1;clear u0 u1 u2;obtain ⟨u0,u1,u2⟩:=(A2.out.below hb1).un;clear hb1)
  | (go_at_call 11;refine (CO.out w1 HB1.out).mono ?_;rintro e w2 ⟨⟨aL,cL,aA,cA,rfl,hR⟩,hb2⟩;have HR:=jH hR;have HB2:=jH (jB HB1.out hb2);clear hb2 u0 u1 u2 hR)
  | ((with_reducible show wpList _ _ _ (Oper.mk none (Op.store 35 _ _) _ _ _ none::_) _ _);refine wpl_storeR w2.heap.size lv qn cn aL ln cL aA qn cA (oneR w2) rfl rfl ?_;intro w9 h9 hb9;have H9:=jH h9;have HB9:=jH hb9;clear h9 hb9))
 have hsz:=hz.out
 have hs1:=HB1.out.size
 have hs2:=HB2.out.size
 have HB3:Hid (Below V.heap.size V w9):=jH ((belA HB2.out).grown HB9.out (by simp only [World.size_alloc];omega) (fun k e=>by cases e;exact hs2))
 have HB29:Hid (Below w2.heap.size w2 w9):=jH ((belA bR).grown HB9.out (by simp only [World.size_alloc];omega) (fun k e=>by cases e;omega))
 have HR9:=jH ((HR.out.bel HB29.out).low (w0:=w) (by omega))
 obtain ⟨u0,u1,u2⟩:=(A2.out.below HB3.out).un
 have hlt5:=H9.out.lt
 obtain ⟨b5,hb5⟩:∃ b5,b5=w2.heap.size:=⟨_,rfl⟩
 rw [← hb5] at H9 hlt5 ⊢
 clear HB9 HB29 HR HB2 HB1 hs1 hs2 hsz CF CO hb5
 go_upto_region 8 with (first
  | (go_at_call 32;refine (CM.out _ HB3.out).mono ?_;rintro e w5 ⟨rfl,hb5⟩;have HB5:=jH hb5;clear u0 u1 u2;obtain ⟨u0,u1,u2⟩:=((A2.out.below HB3.out).below hb5).un;clear hb5))
 have H95:=jH (H9.out.below HB5.out)
 have HR5:=jH (HR9.out.bel HB5.out)
 have HB35:=jH (jB HB3.out HB5.out)
 have HBW:=jH (jB HB.out HB35.out)
 have hugl:ug<w5.heap.size:=Nat.lt_of_lt_of_le HC7.out.1 HBW.out.size
 clear HR9 HB3 HB5 H9 hlt5
 go_upto_region 9 with (first
  | ((with_reducible show wpList _ _ _ (Oper.mk (some _) (Op.load 70 _) _ _ _ none::_) _ _);refine wpl_load70 ug (uo+j*7) nm lv oa on oc pa la ln lc na nn nc qa qn qc rfl (HC7.out.bel HBW.out) ?_)
  | ((with_reducible show wpList _ _ _ (Oper.mk none (Op.store 70 _ _) _ _ _ none::_) _ _);refine wpl_store70 w5.heap.size nm lv oa on oc pa la ln lc na nn nc qa qn qc (there_new w5 _ _ 7 rfl) (by simp) rfl rfl ?_;intro U hc7 hbt;have C6:=jH hc7;have HBT:=jH hbt;clear hc7 hbt))
 have HB5U:Hid (Below w5.heap.size w5 U):=jH ((belA bR).grown HBT.out (by simp only [World.size_alloc];omega) (fun k e=>by cases e;omega))
 have HRU:=HR5.out.bel HB5U.out
 have HOC:Hid (Oc w U b5 w5.heap.size a (some ⟨ug,uo,none⟩) n cap un ucap mn gs g cl nm lv oa on oc pa la ln lc na nn nc qa qn qc cn aL cL aA cA):=jH ⟨(A2.out.below HB35.out).below HB5U.out,H95.out.below HB5U.out,C6.out,by rw [HLV.out,HLL.out];exact HRU.row,by rw [HQQ.out,HLV.out];exact HRU.ats,HLC.out.bel (jB HBW.out HB5U.out),HPS.out.bel (jB HBW.out HB5U.out),jB HBW.out HB5U.out⟩
 obtain ⟨b7,hb7⟩:∃ b7,b7=w5.heap.size:=⟨_,rfl⟩
 rw [← hb7] at HOC ⊢
 clear u0 u1 u2 C6 HBT HB5U HRU HR5 H95 HB35 HBW HC7 HLC HPS CM A2 hz hugl hb7
 obtain ⟨u0,u1,u2⟩:=HOC.out.a2.un
 obtain ⟨r0,r1,r2,r3,r4⟩:=HOC.out.a5.rg
 obtain ⟨s1,s4,s6⟩:=cst7 HOC.out.c7
 have hl5:=HOC.out.a5.lt
 have hl7:=HOC.out.c7.1
 obtain ⟨i0,hi0,hz0,hz1,hz2⟩:=info_parts Tryz.info3
 go_upto_region 12 with (at_make;refine wpList_make_full _ rfl _ _ 33 rfl U.heap.size 3 i0 (.int .i64 0) 1 Tryz.underlying33 hi0 hz0 hz1 .i64 .i64 _ _ cn rfl rfl rfl rfl (by rw [hz2];omega) (by unfold maxLen;omega) (Nat.le_refl _) ?_;intro U1 ho1 hg1;have HMT:=jH (Mt.start (lv:=lv) ho1 hg1);clear ho1 hg1)
 clear u0 u1 u2 r0 r1 r2 r3 r4 s1 s4 s6
 go_wp2_with fail
 go_loopw [9] (fun v W=>∃ i:Nat,i≤ln∧v=.int .i64 (i:Int)∧Mt U W lv (cntL lv (cl.take i)) cn) (fun v _=>ln - (intOf v).toNat)
 case atStart=>exact ⟨0,Nat.zero_le _,rfl,HMT.out⟩
 case round =>
  clear HMT
  obtain ⟨i,hi,rfl,hM⟩:=hrel
  by_cases hlt:i<ln
  ·obtain ⟨c,hc⟩:∃ c,cl[i]?=some c:=⟨_,List.getElem?_eq_getElem (by rw [← HLL.out];exact hlt)⟩
   have hcok:=HRG.out.ok c (List.mem_of_getElem? hc)
   have hcm:=cntL_mono cl i lv
   have hcm2:=cntL_mono cl (i+1) lv
   have hcp:=(cntP_mono gs g.pt 0 (cntL lv cl) HMD.out).2
   simp only [List.take_zero,cntP] at hcp
   rw [HCN.out] at hcp
   have HCT:=jH (cntL_take lv cl i c hc)
   rw [HCT.out] at hcm2
   obtain ⟨m0,hm0⟩:∃ m0:Int,m0=cntL lv (cl.take i):=⟨_,rfl⟩
   have hk60:c.regs.length≤60:=by have:=regs_le c;have:=hcok.deep;omega
   have hrg:(numC (cntL lv (cl.take i)) c).rg:=num_rg (lv:=lv) (by omega) (by omega) lv8 c [] hcok.ok (by simp only [List.length_nil];omega) (HREG.out i c hc)
   obtain ⟨lg,lo,rg,f,f',e1,e2,hK⟩:=HOC.out.lcl hc hrg
   subst e1 e2
   have hOkn:Ok (numC (cntL lv (cl.take i)) c):=num_Ok (by omega) hcok
   obtain ⟨hT1,hT2⟩:=turn_regs (outN (cntL lv (cl.take i))) c []
   have hT3:=turn_alike (outN (cntL lv (cl.take i))) c []
   rw [← hm0] at hM hcm hcm2 hrg hK hOkn hT1 hT2 hT3 HCT
   obtain ⟨K,hKK⟩:∃ K,K=c.regs.length:=⟨_,rfl⟩
   obtain ⟨L1,hL1⟩:∃ L1,L1=c.regs:=⟨_,rfl⟩
   obtain ⟨L2,hL2⟩:∃ L2,L2=(numC m0 c).regs:=⟨_,rfl⟩
   have CR1:Hid (∀ W,Below wr.heap.size wr W→Calls Tryz.prog 33 #[f.v] W fun e w'=>(∃ v,e=.returned v∧w'.ownsRow W.heap.size 3 1 v K (iCells L1))∧Below W.heap.size W w'):=jH fun W hW=>by
    rw [hKK,hL1]
    exact Regions_yes c f W hcok (hK W (jB hM.bel hW)).2.1
   have CR2:Hid (∀ W,Below wr.heap.size wr W→Calls Tryz.prog 33 #[f'.v] W fun e w'=>(∃ v,e=.returned v∧w'.ownsRow W.heap.size 3 1 v K (iCells L2))∧Below W.heap.size W w'):=jH fun W hW=>by
    rw [hKK,hL2,← hT1]
    exact Regions_yes _ f' W hOkn (hK W (jB hM.bel hW)).2.2.2
   have CAL:Hid (∀ W,Below wr.heap.size wr W→Calls Tryz.prog 34 #[f.v,f'.v] W fun e w'=>e=.returned (.bool true)∧Below W.heap.size W w'):=jH fun W hW=>by
    have k:=hK W (jB hM.bel hW)
    have:=Alike_yes c (numC m0 c) f f' W k.2.1 k.2.2.2 hcok hOkn
    rw [show alikeB c (numC m0 c)=true from hT3] at this
    exact this
   obtain ⟨k1,m1,q1,s1,ya1,yn1,yc1⟩:=f
   obtain ⟨k2,m2,q2,s2,ya2,yn2,yc2⟩:=f'
   have HC:Hid (∀ W,Below wr.heap.size wr W→b5<W.heap.size∧b7<W.heap.size∧W.cell? ⟨b5,3,none⟩=some (.slice (some ⟨rg,0,none⟩) ln cL)∧W.cell? ⟨b7,4,none⟩=some (.slice (some ⟨lg,lo,none⟩) ln lc)∧C5 W lg (lo+i*5) ⟨k1,m1,q1,s1,ya1,yn1,yc1⟩∧C5 W rg (i*5) ⟨k2,m2,q2,s2,ya2,yn2,yc2⟩):=jH fun W hW=>by
    have hb:=jB hM.bel hW
    have k:=hK W hb
    exact ⟨(HOC.out.a5.below hb).lt,(HOC.out.c7.bel hb).1,(HOC.out.a5.below hb).rg.2.2.2.1,(cst7 (HOC.out.c7.bel hb)).2.1,k.1,k.2.2.1⟩
   have HM:=jH hM
   have HT2:Hid (∀ (k:Nat) (r:Int),L1[k]?=some r→L2[k]?=some (outN m0 (L1.take k) r)):=jH fun k r hr=>by rw [hL2,hL1];rw [hL1] at hr;have:=hT2 k r hr;rwa [List.nil_append] at this
   have HKL:Hid (K=L1.length):=jH (by rw [hL1];exact hKK)
   have HLr:Hid (∀ q∈L1,q<lv):=jH (by rw [hL1];exact HREG.out i c hc)
   have HN1:Hid (cntL lv (cl.take (i+1))=m0+(negs L1:Nat)):=jH (by rw [hL1];exact HCT.out)
   have HNB:Hid (lv≤m0∧m0+(negs L1:Nat)≤(cn:Int)):=jH ⟨hcm.1,by rw [hL1];omega⟩
   have K60:(K:Int)≤60:=by omega
   have i0:(0:Int)≤(i:Int):=by omega
   have i1:(i:Int)<(ln:Int):=by omega
   have HLT:=jH hlt
   clear hM hc hcok hcm hcm2 hcp HCT hm0 hk60 hrg hK hOkn hT1 hT2 hT3 hKK hL1 hL2 hlt hi
   obtain ⟨x1,x2,x3,x4,⟨x5,x6,x7,x8,x9,x10⟩,⟨x11,x12,x13,x14,x15,x16⟩⟩:=HC.out wr bR
   go_upto_region 15 with fail
   clear x1 x2 x3 x4 x5 x6 x7 x8 x9 x10 x11 x12 x13 x14 x15 x16
   go_cut [10,11] (fun v10 v11 W=>∃ a1 c1 a2 c2,v10=.slice a1 K c1∧v11=.slice a2 K c2∧W.ownsRow wr.heap.size 3 1 (.slice a1 K c1) K (iCells L1)∧W.ownsRow wr.heap.size 3 1 (.slice a2 K c2) K (iCells L2)∧Below wr.heap.size wr W)
   case first =>
    refine beginH (S:=fun W=>Below wr.heap.size wr W) (fun _ _ _ _ _ h=>h) (by kernel_rfl) (belN bR 1) (fun hq hH=>?_)
    refine tz 0 122 (.pointer (some ⟨b7,4,none⟩)) hq rfl rfl hH ?_
    simp only [pb,pc]
    refine tq 1 123 (.slice (some ⟨lg,lo,none⟩) ln lc) hq rfl rfl (fun W hSw=>by (obtain ⟨x1,x2,x3,x4,⟨x5,x6,x7,x8,x9,x10⟩,⟨x11,x12,x13,x14,x15,x16⟩⟩:=HC.out W hSw;go_simp;try rfl)) hH ?_
    simp only [pb,pc]
    refine tz 2 124 (.int .i64 (i:Int)) hq rfl rfl hH ?_
    simp only [pb,pc]
    refine tz 3 125 (.pointer (some ⟨lg,lo+i*5,none⟩)) hq rfl rfl hH ?_
    simp only [pb,pc]
    refine tq 4 126 (.agg #[.int .u8 (k1:Int),.bool m1,.int .i64 q1,.int .i64 s1,.slice ya1 yn1 yc1]) hq rfl rfl (fun W hSw=>by (obtain ⟨x1,x2,x3,x4,⟨x5,x6,x7,x8,x9,x10⟩,⟨x11,x12,x13,x14,x15,x16⟩⟩:=HC.out W hSw;go_simp;try rfl)) hH ?_
    simp only [pb,pc]
    refine tz 6 128 (.pointer (some ⟨b5,3,none⟩)) hq rfl rfl hH ?_
    simp only [pb,pc]
    refine tq 7 129 (.slice (some ⟨rg,0,none⟩) ln cL) hq rfl rfl (fun W hSw=>by (obtain ⟨x1,x2,x3,x4,⟨x5,x6,x7,x8,x9,x10⟩,⟨x11,x12,x13,x14,x15,x16⟩⟩:=HC.out W hSw;go_simp;try rfl)) hH ?_
    simp only [pb,pc]
    refine tz 8 130 (.int .i64 (i:Int)) hq rfl rfl hH ?_
    simp only [pb,pc]
    refine tz 9 131 (.pointer (some ⟨rg,i*5,none⟩)) hq rfl rfl hH ?_
    simp only [pb,pc]
    refine tq 10 132 (.agg #[.int .u8 (k2:Int),.bool m2,.int .i64 q2,.int .i64 s2,.slice ya2 yn2 yc2]) hq rfl rfl (fun W hSw=>by (obtain ⟨x1,x2,x3,x4,⟨x5,x6,x7,x8,x9,x10⟩,⟨x11,x12,x13,x14,x15,x16⟩⟩:=HC.out W hSw;go_simp;try rfl)) hH ?_
    simp only [pb,pc]
    refine aR1 5 rfl (fun K hK=>?_)
    go_simp
    refine (CR1.out _ hH).mono ?_
    rintro e v1 ⟨⟨vv,rfl,hv⟩,hb1⟩
    obtain ⟨a1,c1,rfl⟩:=own_sl hv
    have hS1:Below wr.heap.size wr v1:=jB hH hb1
    have hO1:=jH (own_low hv hH.size)
    go_wp2_with fail
    refine hK.out _ _ hS1 (fun hH=>?_)
    clear hK K
    try simp only [Act.put,List.setIfInBounds_toArray,pb,pc]
    clear hv
    refine aR1 11 rfl (fun K hK=>?_)
    go_simp
    refine (CR2.out _ hH).mono ?_
    rintro e v2 ⟨⟨vv,rfl,hv⟩,hb2⟩
    obtain ⟨a2,c2,rfl⟩:=own_sl hv
    have hS2:Below wr.heap.size wr v2:=jB hH hb2
    have hO2:=jH (own_low hv hH.size)
    have hO3:=jH (own_bel hO1.out hb2)
    go_wp2_with fail
    refine hK.out _ _ hS2 (fun hH=>?_)
    clear hK K
    try simp only [Act.put,List.setIfInBounds_toArray,pb,pc]
    clear hv
    refine tz 12 10 _ hq rfl rfl hH ?_
    simp only [pb,pc]
    refine tz 13 11 _ hq rfl rfl hH ?_
    simp only [pb,pc]
    refine wpAnyH_done (by kernel_rfl) ?_ _
    go_wp2_with fail
    go_meet
    exact ⟨_,_,_,_,rfl,rfl,hO3.out,hO2.out,hS2⟩
   case rest =>
    obtain ⟨a1,c1,a2,c2,rfl,rfl,hO1,hO2,hBc⟩:=hcut
    have HO1:=jH hO1
    have HO2:=jH hO2
    have HBC:=jH hBc
    clear hO1 hO2 hBc CR1 CR2
    obtain ⟨x1,x2,x3,x4,⟨x5,x6,x7,x8,x9,x10⟩,⟨x11,x12,x13,x14,x15,x16⟩⟩:=HC.out wc HBC.out
    go_upto_region 16 with fail
    clear x1 x2 x3 x4 x5 x6 x7 x8 x9 x10 x11 x12 x13 x14 x15 x16
    refine beginH (S:=fun W=>Below wc.heap.size wc W) (fun _ _ _ _ _ h=>h) (by kernel_rfl) (belN bR 1) (fun hq hH=>?_)
    refine tz 0 134 (.pointer (some ⟨b7,4,none⟩)) hq rfl rfl hH ?_
    simp only [pb,pc]
    refine tq 1 135 (.slice (some ⟨lg,lo,none⟩) ln lc) hq rfl rfl (fun W hSw=>by (obtain ⟨x1,x2,x3,x4,⟨x5,x6,x7,x8,x9,x10⟩,⟨x11,x12,x13,x14,x15,x16⟩⟩:=HC.out W (jB HBC.out hSw);go_simp;try rfl)) hH ?_
    simp only [pb,pc]
    refine tz 2 136 (.int .i64 (i:Int)) hq rfl rfl hH ?_
    simp only [pb,pc]
    refine tz 3 137 (.pointer (some ⟨lg,lo+i*5,none⟩)) hq rfl rfl hH ?_
    simp only [pb,pc]
    refine tq 4 138 (.agg #[.int .u8 (k1:Int),.bool m1,.int .i64 q1,.int .i64 s1,.slice ya1 yn1 yc1]) hq rfl rfl (fun W hSw=>by (obtain ⟨x1,x2,x3,x4,⟨x5,x6,x7,x8,x9,x10⟩,⟨x11,x12,x13,x14,x15,x16⟩⟩:=HC.out W (jB HBC.out hSw);go_simp;try rfl)) hH ?_
    simp only [pb,pc]
    refine tz 5 139 (.pointer (some ⟨b5,3,none⟩)) hq rfl rfl hH ?_
    simp only [pb,pc]
    refine tq 6 140 (.slice (some ⟨rg,0,none⟩) ln cL) hq rfl rfl (fun W hSw=>by (obtain ⟨x1,x2,x3,x4,⟨x5,x6,x7,x8,x9,x10⟩,⟨x11,x12,x13,x14,x15,x16⟩⟩:=HC.out W (jB HBC.out hSw);go_simp;try rfl)) hH ?_
    simp only [pb,pc]
    refine tz 7 141 (.int .i64 (i:Int)) hq rfl rfl hH ?_
    simp only [pb,pc]
    refine tz 8 142 (.pointer (some ⟨rg,i*5,none⟩)) hq rfl rfl hH ?_
    simp only [pb,pc]
    refine tq 9 143 (.agg #[.int .u8 (k2:Int),.bool m2,.int .i64 q2,.int .i64 s2,.slice ya2 yn2 yc2]) hq rfl rfl (fun W hSw=>by (obtain ⟨x1,x2,x3,x4,⟨x5,x6,x7,x8,x9,x10⟩,⟨x11,x12,x13,x14,x15,x16⟩⟩:=HC.out W (jB HBC.out hSw);go_simp;try rfl)) hH ?_
    simp only [pb,pc]
    refine aR1 10 rfl (fun K hK=>?_)
    go_simp
    refine (CAL.out _ (jB HBC.out hH)).mono ?_
    rintro e v3 ⟨rfl,hb3⟩
    have hS3:Below wc.heap.size wc v3:=jB hH hb3
    go_wp2_with fail
    refine hK.out _ _ hS3 (fun hH=>?_)
    clear hK K
    try simp only [Act.put,List.setIfInBounds_toArray,pb,pc]
    refine tz 11 145 (.bool false) hq rfl rfl hH ?_
    simp only [pb,pc]
    refine tz 12 146 (.bool false) hq rfl rfl hH ?_
    simp only [pb,pc]
    refine tz 13 147 (.slice a1 K c1) hq rfl rfl hH ?_
    simp only [pb,pc]
    refine tz 14 148 (.int .i64 (K:Int)) hq rfl rfl hH ?_
    simp only [pb,pc]
    refine tz 15 149 (.slice a2 K c2) hq rfl rfl hH ?_
    simp only [pb,pc]
    refine tz 16 150 (.int .i64 (K:Int)) hq rfl rfl hH ?_
    simp only [pb,pc]
    refine tz 17 151 (.bool false) hq rfl rfl hH ?_
    simp only [pb,pc]
    refine tz 18 152 (.bool false) hq rfl rfl hH ?_
    simp only [pb,pc]
    refine wpAnyH_done (by kernel_rfl) ?_ _
    have HS3:=jH hS3
    have HO13:=jH (own_bel HO1.out hS3)
    have HO23:=jH (own_bel HO2.out hS3)
    have HM3:=jH ((HM.out.below HBC.out).below hS3)
    have HUB:Hid (U.heap.size<wr.heap.size):=jH HM.out.lt
    clear hb3 hS3 hH hq CAL HC HO1 HO2 HS3 HBC HM
    generalize wr.heap.size=B0 at HUB HO13 HO23
    go_wp2_with fail
    go_loopw [12] (fun v W=>∃ k:Nat,k≤K∧v=.int .i64 (k:Int)∧Mt U W lv (m0+(negs (L1.take k):Nat)) cn∧W.ownsRow B0 3 1 (.slice a1 K c1) K (iCells L1)∧W.ownsRow B0 3 1 (.slice a2 K c2) K (iCells L2)) (fun v _=>K - (intOf v).toNat)
    case atStart=>exact ⟨0,Nat.zero_le _,rfl,by have:=HM3.out;simpa [negs] using this,HO13.out,HO23.out⟩
    case round =>
     clear HM3 HO13 HO23
     obtain ⟨k,hk,rfl,hMk,hP1,hP2⟩:=hrel
     by_cases hkl:k<K
     ·obtain ⟨r,hr⟩:∃ r,L1[k]?=some r:=⟨_,List.getElem?_eq_getElem (by rw [← HKL.out];exact hkl)⟩
      have hx:=HT2.out k r hr
      obtain ⟨g1,e1,hg1,hl1,hc1⟩:=own_at hP1 k r hr
      obtain ⟨g2,e2,hg2,hl2,hc2⟩:=own_at hP2 k _ hx
      subst e1 e2
      have hnt:=negs_take L1 k r hr
      have hnm:=negs_mono L1 (k+1)
      have hnb:=HNB.out
      have hub:=HUB.out
      have HKLT:=jH hkl
      have k0:(0:Int)≤(k:Int):=by omega
      have k1:(k:Int)<(K:Int):=by omega
      have HP1:=jH hP1
      have HP2:=jH hP2
      have HMK:=jH hMk
      have hlr:=HLr.out r (List.mem_of_getElem? hr)
      by_cases h0:0≤r
      ·rw [show outN m0 (L1.take k) r=r from if_pos h0] at hc2
       have HNT:Hid (negs (L1.take (k+1))=negs (L1.take k)):=jH (by rw [hnt,if_neg (by omega)];rfl)
       clear hMk hP1 hP2 hx hr hnt hnm hnb hub hkl hk hlr hg1 hg2
       go_upto_region 22 with fail
       go_quiet (fail)
       go_wp2_with fail
       refine ⟨⟨k+1,HKLT.out,rfl,by rw [HNT.out];exact HMK.out.below (belN bR _),own_bel HP1.out (belN bR _),own_bel HP2.out (belN bR _)⟩,?_⟩
       show K - ((k:Int)+1).toNat<K - (k:Int).toNat
       have:=HKLT.out
       omega
      ·obtain ⟨x,hxx⟩:∃ x:Nat,m0+(negs (L1.take k):Nat)=(x:Int):=⟨(m0+(negs (L1.take k):Nat)).toNat,by omega⟩
       rw [show outN m0 (L1.take k) r=(x:Int) from (if_neg h0).trans hxx] at hc2
       rw [if_pos (show r<0 by omega)] at hnt
       have HNT:Hid (m0+(negs (L1.take (k+1)):Nat)=(x:Int)+1):=jH (by rw [hnt];omega)
       rw [hxx] at HMK
       have hxc:x<cn:=by omega
       have x0:(0:Int)≤(x:Int):=by omega
       have x1:(x:Int)<(cn:Int):=by omega
       have x2:lv≤(x:Int):=by omega
       have x3:(x:Int)≤512:=by omega
       have y1:∀ d,(wr.drewN d).cell? ⟨U.heap.size,x,none⟩=some (.int .i64 0):=fun d=>(HMK.out.below (belN bR d)).cell (mk1_old lv _ cn x rfl hxc)
       have y2:∀ d,(wr.drewN d).frozen? ⟨U.heap.size,x,none⟩=false:=fun d=>(HMK.out.below (belN bR d)).fz x
       have HN:Hid (∀ d,Mt U ((wr.drewN d).setCell ⟨U.heap.size,x,none⟩ (.int .i64 1)) lv (m0+(negs (L1.take (k+1)):Nat)) cn∧((wr.drewN d).setCell ⟨U.heap.size,x,none⟩ (.int .i64 1)).ownsRow B0 3 1 (.slice (some ⟨g1,0,none⟩) K c1) K (iCells L1)∧((wr.drewN d).setCell ⟨U.heap.size,x,none⟩ (.int .i64 1)).ownsRow B0 3 1 (.slice (some ⟨g2,0,none⟩) K c2) K (iCells L2)):=jH fun d=>⟨by rw [HNT.out];exact (HMK.out.below (belN bR d)).next rfl x2 hxc,own_off (own_bel HP1.out (belN bR d)) hub x _,own_off (own_bel HP2.out (belN bR d)) hub x _⟩
       have hul:=HMK.out.lt
       have z5:=HOC.out.a5.below HMK.out.bel
       obtain ⟨r0,r1,r2,r3,r4⟩:=z5.rg
       have z5l:=z5.lt
       have rn:¬ 0≤r:=h0
       clear hMk hP1 hP2 hx hr hnt hnm hnb hub hkl hk hlr hg1 hg2 z5 hxx hxc h0
       go_upto_region 24 with fail
       go_quiet (fail)
       go_wp2_with fail
       obtain ⟨n1,n2,n3⟩:=HN.out nq
       refine ⟨⟨k+1,HKLT.out,rfl,n1,n2,n3⟩,?_⟩
       show K - ((k:Int)+1).toNat<K - (k:Int).toNat
       have:=HKLT.out
       omega
     ·obtain rfl:k=K:=by omega
      have HMK:Hid (Mt U wr lv (cntL lv (cl.take (i+1))) cn):=jH (by rw [HN1.out];rw [List.take_of_length_le (by rw [← HKL.out];exact Nat.le_refl _)] at hMk;exact hMk)
      clear hMk hP1 hP2 hk hkl
      have k1:¬ (k:Int)<(k:Int):=by omega
      go_wp2_with fail
      refine ⟨⟨i+1,HLT.out,rfl,HMK.out⟩,?_⟩
      show ln - ((i:Int)+1).toNat<ln - (i:Int).toNat
      have:=HLT.out
      omega
  ·have HM:Hid (Mt U wr lv (cntL lv cl) cn):=jH (by rw [List.take_of_length_le (by rw [← HLL.out];omega)] at hM;exact hM)
   obtain rfl:i=ln:=by omega
   clear hM hlt hi
   have z5:=HOC.out.a5.below HM.out.bel
   have z7:=HOC.out.c7.bel HM.out.bel
   obtain ⟨r0,r1,r2,r3,r4⟩:=z5.rg
   obtain ⟨s1,s4,s6⟩:=cst7 z7
   have z5l:=z5.lt
   have z7l:=z7.1
   have k1:¬ (i:Int)<(i:Int):=by omega
   clear z5 z7
   go_wp2_with fail
   clear r0 r1 r2 r3 r4 s1 s4 s6 z5l z7l k1
   go_loopw [13] (fun v W=>∃ q:Nat,q≤qn∧v=.int .i64 (q:Int)∧Mt U W lv (cntP gs (cntL lv cl) (g.pt.take q)) cn) (fun v _=>qn - (intOf v).toNat)
   case atStart=>exact ⟨0,Nat.zero_le _,rfl,HM.out⟩
   case round =>
    clear HM
    obtain ⟨q,hq,rfl,hM⟩:=hrel
    by_cases hlt:q<qn
    ·obtain ⟨p,hp⟩:∃ p,g.pt[q]?=some p:=⟨_,List.getElem?_eq_getElem (by rw [← HQQ.out];exact hlt)⟩
     obtain ⟨pg,po,pv,e1,hpg,hrn,hpv⟩:=HOC.out.pt.at_ q p hp
     obtain ⟨ag,e2,hag,hal,hac⟩:=own_at (own_bel HOC.out.ats hM.bel) q _ (atR_at gs g.pt (cntL lv cl) q p hp)
     subst e1 e2
     have hpm:=List.mem_of_getElem? hp
     have hm0:=HMD.out p hpm
     have hm8:=HM8.out p hpm
     have hcl:=(cntL_mono cl 0 lv).2
     simp only [List.take_zero,cntL] at hcl
     have hcm:=cntP_mono gs g.pt q (cntL lv cl) HMD.out
     have hcm2:=cntP_mono gs g.pt (q+1) (cntL lv cl) HMD.out
     have hct:=cntP_take gs (cntL lv cl) g.pt q p hp
     rw [hct,HCN.out] at hcm2
     obtain ⟨x,hx⟩:∃ x:Nat,cntP gs (cntL lv cl) (g.pt.take q)=(x:Int):=⟨(cntP gs (cntL lv cl) (g.pt.take q)).toNat,by omega⟩
     obtain ⟨md,hmd⟩:∃ md:Nat,made gs p=(md:Int):=⟨(made gs p).toNat,by omega⟩
     have hat:=atR_at gs g.pt (cntL lv cl) q p hp
     rw [hx,hmd] at hct hac hcm2 hat
     have HAT:=jH hat
     clear hat
     rw [hx] at hM hcm
     obtain ⟨op,hop⟩:∃ op,op=pv.op:=⟨_,rfl⟩
     obtain ⟨fn,hfn⟩:∃ fn,fn=pv.fn:=⟨_,rfl⟩
     have HOP:Hid (op=p.op):=jH (by rw [hop];exact hpv.op)
     have HFN:Hid (fn=p.fn):=jH (by rw [hfn];exact hpv.fn)
     have HPM:=jH hpm
     have hc0:∀ d,(wr.drewN d).cell? ⟨pg,po+q*21,none⟩=some (.int .u8 (op:Int)):=fun d=>by rw [hop];exact rng_bel hpg hrn (belN hM.bel d) 0 _ rfl
     have hc16:∀ d,(wr.drewN d).cell? ⟨pg,po+q*21+16,none⟩=some (.int .i64 fn):=fun d=>by rw [hfn];exact rng_bel hpg hrn (belN hM.bel d) 16 _ rfl
     have hcw:∀ d,(wr.drewN d).cell? ⟨w.heap.size,1,none⟩=some (.slice (some ⟨ug,uo,none⟩) un ucap):=fun d=>(HOC.out.a2.below (belN hM.bel d)).un.2.1
     have hc75:∀ d,(wr.drewN d).cell? ⟨b7,6,none⟩=some (.slice (some ⟨pg,po,none⟩) qn qc):=fun d=>(cst7 (HOC.out.c7.bel (belN hM.bel d))).2.2
     have z7l:b7<wr.heap.size:=(HOC.out.c7.bel hM.bel).1
     have z5l:b5<wr.heap.size:=(HOC.out.a5.below hM.bel).lt
     have zwl:w.heap.size<wr.heap.size:=(HOC.out.a2.below hM.bel).lt
     have q0:(0:Int)≤(q:Int):=by omega
     have q1:(q:Int)<(qn:Int):=by omega
     have HMDV:=jH hmd
     have HCT:=jH hct
     have HAC:=jH hac
     have HM:=jH hM
     have HXB:Hid (lv≤(x:Int)∧(x:Int)+(md:Int)≤(cn:Int)∧md≤8):=jH ⟨by omega,hcm2.2,by omega⟩
     have HLT:=jH hlt
     obtain ⟨n1,hn1⟩:∃ n1:Nat,n1=if op=4 then 1 else 0:=⟨_,rfl⟩
     have HN1:=jH hn1
     clear hM hlt hq hp hrn hpv hpg hag hac hpm hm0 hm8 hcl hcm hcm2 hct hx hmd hop hfn hn1 hal
     have y0:=hc0 0
     have y75:=hc75 0
     rw [World.drewN_zero] at y0 y75
     go_upto_if 211 with fail
     go_cut [14] (fun v W=>v=.int .i64 (n1:Int)∧W=wr)
     case first =>
      clear hc0 hc16 hcw hc75 y0 y75
      by_cases h4:op=4
      ·have o1:((op:Int) == 4)=true:=by rw [h4];rfl
       have en:n1=1:=by rw [HN1.out,if_pos h4]
       subst en
       clear h4
       go_wp2_with fail
       go_meet
       exact ⟨rfl,rfl⟩
      ·have o1:((op:Int) == 4)=false:=by simp;omega
       have en:n1=0:=by rw [HN1.out,if_neg h4]
       subst en
       clear h4
       go_wp2_with fail
       go_meet
       exact ⟨rfl,rfl⟩
     case rest =>
      obtain ⟨rfl,hwc⟩:=hcut
      subst hwc
      obtain ⟨wd,hwd0⟩:∃ wd,wd=wc:=⟨_,rfl⟩
      subst hwd0
      go_upto_if 218 with fail
      go_cut [14] (fun v W=>v=.int .i64 (md:Int)∧∃ d,W=wd.drewN d)
      case first =>
       by_cases h7:op=7
       ·obtain ⟨j2,g2,f1,f2,f3,f4,f5,f6⟩:=HRG.out.call p HPM.out (by rw [← HOP.out];exact h7)
        obtain ⟨f7,f8⟩:=f6 ug uo rfl
        have en:(md:Int)=g2.lv:=by
         rw [← HMDV.out]
         unfold made
         rw [if_neg (by rw [← HOP.out];omega),if_pos (by rw [← HOP.out];exact h7),f1,Int.toNat_natCast,f3]
         rfl
        have ef:fn=(j2:Int):=by rw [HFN.out,f1]
        subst ef
        have o1:((op:Int) == 7)=true:=by rw [h7];rfl
        have hbw:=jB HOC.out.bel HM.out.bel
        have hcj:wd.cell? ⟨ug,uo+j2*7+1,none⟩=some (.int .i64 (md:Int)):=by rw [en];exact (hbw.cell (p:=⟨ug,uo+j2*7+1,none⟩) f7).trans f8
        have hugl:ug<wd.heap.size:=Nat.lt_of_lt_of_le f7 hbw.size
        have j20:(0:Int)≤(j2:Int):=by omega
        have j21:(j2:Int)<(un:Int):=by omega
        have y16:=hc16 0
        have ycw:=hcw 0
        rw [World.drewN_zero] at y16 ycw
        clear hc0 hc16 hcw hc75 h7 f1 f2 f3 f4 f5 f6 f7 f8 en hbw
        go_upto_region 34 with fail
        go_quiet (fail)
        go_wp2_with fail
        go_meet
        exact ⟨rfl,_,rfl⟩
       ·have o1:((op:Int) == 7)=false:=by simp;omega
        have en:n1=md:=by
         have:=HMDV.out
         unfold made at this
         rw [HN1.out]
         by_cases h4:op=4
         ·rw [if_pos (by rw [← HOP.out];exact h4)] at this
          rw [if_pos h4]
          omega
         ·rw [if_neg (by rw [← HOP.out];exact h4),if_neg (by rw [← HOP.out];exact h7)] at this
          rw [if_neg h4]
          omega
        subst en
        clear hc0 hc16 hcw hc75 h7
        go_wp2_with fail
        go_meet
        exact ⟨rfl,0,rfl⟩
      case rest =>
       obtain ⟨rfl,dd,hwd⟩:=hcut
       have HM2:Hid (Mt U wc lv (x:Int) cn):=jH (by rw [hwd];exact HM.out.below (belN bR dd))
       have hac2:=(own_bel HOC.out.ats HM2.out.bel)
       have HAC2:Hid (wc.cell? ⟨ag,q,none⟩=some (.int .i64 (if 0<(md:Int) then (x:Int) else -1))):=jH (by rw [hwd];exact HAC.out)
       have hagl:ag<wc.heap.size:=(hac2.lt _ rfl).2
       clear hac2 HM HAC hwd hc0 hc16 hcw hc75 y0 y75 z7l z5l zwl HOP HFN HPM HN1
       have z5:=HOC.out.a5.below HM2.out.bel
       obtain ⟨r0,r1,r2,r3,r4⟩:=z5.rg
       have z5l:=z5.lt
       clear z5
       by_cases hm0:0<md
       ·have m0:(0:Int)<(md:Int):=by omega
        have hca:=HAC2.out
        rw [if_pos m0] at hca
        have x0:(0:Int)≤(x:Int):=by omega
        have HATQ:Hid ((iCells (atR gs (cntL lv cl) g.pt))[q]?=some (.int .i64 (x:Int))):=jH (by unfold iCells;rw [List.getElem?_map,HAT.out,if_pos m0];rfl)
        have HM0:=jH hm0
        have md1:decide (0<md)=true:=decide_eq_true hm0
        have md2:((md:Int)=0)=False:=by simp;omega
        clear HAC2
        go_wp2_with fail
        clear r0 r1 r2 r3 r4 z5l hca hagl
        go_loopw [15] (fun v W=>∃ k:Nat,k≤md∧v=.int .i64 (k:Int)∧Mt U W lv ((x:Int)+(k:Int)) cn) (fun v _=>md - (intOf v).toNat)
        case atStart=>exact ⟨0,Nat.zero_le _,rfl,by rw [show ((0:Nat):Int)=0 from rfl,Int.add_zero];exact HM2.out⟩
        case round =>
         clear HM2
         obtain ⟨k,hk,rfl,hM⟩:=hrel
         by_cases hkl:k<md
         ·have hxb:=HXB.out
          obtain ⟨y,hy⟩:∃ y:Nat,y=x+k:=⟨_,rfl⟩
          have hyc:y<cn:=by omega
          have hyx:(x:Int)+(k:Int)=(y:Int):=by omega
          have HYN:Hid ((x:Int)+((k+1:Nat):Int)=(y:Int)+1):=jH (by omega)
          rw [hyx] at hM
          have HM:=jH hM
          have y1:∀ d,(wr.drewN d).cell? ⟨U.heap.size,y,none⟩=some (.int .i64 0):=fun d=>(hM.below (belN bR d)).cell (mk1_old lv _ cn y rfl hyc)
          have y2:∀ d,(wr.drewN d).frozen? ⟨U.heap.size,y,none⟩=false:=fun d=>(hM.below (belN bR d)).fz y
          have HN:Hid (∀ d,Mt U ((wr.drewN d).setCell ⟨U.heap.size,y,none⟩ (.int .i64 1)) lv ((x:Int)+((k+1:Nat):Int)) cn):=jH fun d=>by rw [HYN.out];exact (HM.out.below (belN bR d)).next rfl (by omega) hyc
          have z5:=HOC.out.a5.below hM.bel
          obtain ⟨r0,r1,r2,r3,r4⟩:=z5.rg
          have z5l:=z5.lt
          have hul:=hM.lt
          have hca:wr.cell? ⟨ag,q,none⟩=some (.int .i64 (x:Int)):=by
           have:=own_cell (own_bel HOC.out.ats hM.bel) (j:=q) (u:=.int .i64 (x:Int)) HATQ.out
           exact this.1
          have hagl:ag<wr.heap.size:=((own_bel HOC.out.ats hM.bel).lt _ rfl).2
          have w1:IntKind.i64.wrap ((x:Int)+(k:Int))=(y:Int):=by rw [IntKind.wrap_i64];all_goals omega
          have yc0:(0:Int)≤(y:Int):=by omega
          have yc1:(y:Int)<(cn:Int):=by omega
          have hklt:(k:Int)<(md:Int):=by omega
          have k8:(k:Int)≤8:=by omega
          have kw:IntKind.i64.wrap ((k:Int)+1)=(k:Int)+1:=by rw [IntKind.wrap_i64];all_goals omega
          have k0:(0:Int)≤(k:Int):=by omega
          have md8:(md:Int)≤8:=by omega
          have HKL:=jH hkl
          clear hM z5 hxb hy hyx hyc hkl hk hm0 md1 md2
          go_upto_region 40 with fail
          go_quiet (fail)
          go_wp2_with fail
          refine ⟨⟨k+1,HKL.out,rfl,HN.out nq⟩,?_⟩
          show md - ((k:Int)+1).toNat<md - (k:Int).toNat
          have:=HKL.out
          omega
         ·have HM:Hid (Mt U wr lv (cntP gs (cntL lv cl) (g.pt.take (q+1))) cn):=jH (by rw [HCT.out,show md=k by omega];exact hM)
          have hkn:¬ (k:Int)<(md:Int):=by omega
          clear hM hkl hk hm0 md1 md2
          go_wp2_with fail
          refine ⟨⟨q+1,HLT.out,rfl,HM.out⟩,?_⟩
          show qn - ((q:Int)+1).toNat<qn - (q:Int).toNat
          have:=HLT.out
          omega
       ·obtain rfl:md=0:=by omega
        have hca:=HAC2.out
        rw [if_neg (by simp)] at hca
        clear hm0 HAC2
        go_wp2_with fail
        clear r0 r1 r2 r3 r4 z5l hca hagl
        go_loopw [15] (fun v W=>v=.int .i64 0∧Mt U W lv (x:Int) cn) (fun v _=>0)
        case atStart=>exact ⟨rfl,HM2.out⟩
        case round =>
         clear HM2
         obtain ⟨rfl,hM⟩:=hrel
         have HM:=jH hM
         clear hM
         go_wp2_with fail
         refine ⟨⟨q+1,HLT.out,rfl,by rw [HCT.out,show ((0:Nat):Int)=0 from rfl,Int.add_zero];exact HM.out⟩,?_⟩
         show qn - ((q:Int)+1).toNat<qn - (q:Int).toNat
         have:=HLT.out
         omega
    ·have HM:Hid (Mt U wr lv (cn:Int) cn):=jH (by rw [List.take_of_length_le (by rw [← HQQ.out];omega),HCN.out] at hM;exact hM)
     obtain rfl:q=qn:=by omega
     clear hM hlt hq
     have z5:=HOC.out.a5.below HM.out.bel
     have z7:=HOC.out.c7.bel HM.out.bel
     obtain ⟨r0,r1,r2,r3,r4⟩:=z5.rg
     obtain ⟨s1,s4,s6⟩:=cst7 z7
     have z5l:=z5.lt
     have z7l:=z7.1
     have k1:¬ (q:Int)<(q:Int):=by omega
     clear z5 z7
     go_wp2_with fail
     clear r0 r1 r2 r3 r4 s1 s4 s6 z5l z7l k1
     go_loopw [16] (fun v W=>∃ x:Nat,x≤cn∧v=.int .i64 (x:Int)∧Mt U W lv (cn:Int) cn) (fun v _=>cn - (intOf v).toNat)
     case atStart=>exact ⟨0,Nat.zero_le _,rfl,HM.out⟩
     case round =>
      clear HM
      obtain ⟨x,hx,rfl,hM⟩:=hrel
      have HM:=jH hM
      have z5:=HOC.out.a5.below HM.out.bel
      have z7:=HOC.out.c7.bel HM.out.bel
      obtain ⟨r0,r1,r2,r3,r4⟩:=z5.rg
      obtain ⟨s1,s4,s6⟩:=cst7 z7
      have z5l:=z5.lt
      have z7l:=z7.1
      have hul:=hM.lt
      have x0:(0:Int)≤(x:Int):=by omega
      by_cases hlt:x<cn
      ·have x1:(x:Int)<(cn:Int):=by omega
       have HLT:=jH hlt
       by_cases hxl:(x:Int)<lv
       ·have y1:=hM.cell (mk1_low lv _ cn x hxl hlt)
        have nx:¬ lv≤(x:Int):=by omega
        clear hM hlt hx z5 z7
        go_wp2_with fail
        refine ⟨⟨x+1,HLT.out,rfl,HM.out⟩,?_⟩
        show cn - ((x:Int)+1).toNat<cn - (x:Int).toNat
        have:=HLT.out
        omega
       ·have y1:=hM.cell (mk1_high lv _ cn x (by omega) x1 hlt)
        have nx:lv≤(x:Int):=by omega
        clear hM hlt hx z5 z7
        go_wp2_with fail
        refine ⟨⟨x+1,HLT.out,rfl,HM.out⟩,?_⟩
        show cn - ((x:Int)+1).toNat<cn - (x:Int).toNat
        have:=HLT.out
        omega
      ·obtain rfl:x=cn:=by omega
       have k1:¬ (x:Int)<(x:Int):=by omega
       clear hM hlt hx z5 z7
       go_wp2_with (go_at_call 9;refine (CA.out _).mono ?_;rintro e w7 ⟨rfl,hb7⟩;have HB7:=jH hb7;clear hb7)
       go_ret
       exact ⟨rfl,jB (jB HOC.out.bel HM.out.bel) HB7.out⟩
end Go.Proofs.YtdlggpcakaofoaaGreat
