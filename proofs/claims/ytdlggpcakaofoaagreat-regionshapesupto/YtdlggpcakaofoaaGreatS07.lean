import Derived.Test.YtdlggpcakaofoaaGreatS06
namespace Go.Proofs.YtdlggpcakaofoaaGreat
open Go.RowKit Go.Shelf
set_option linter.unusedVariables false
set_option linter.unusedSimpArgs false
set_option maxRecDepth 100000
set_option maxHeartbeats 6000000
theorem shapes_call {w:World} {a ua:Option Addr} {n cap un ucap:Nat} {mn:Int} (fn q:Int) (hF:∀ W,Below w.heap.size w W→Calls Tryz.prog 8 #[uV a n cap ua un ucap mn] W fun e w'=>e=.returned (.bool true)∧Below W.heap.size W w') {tl:Int} {tn:Nat} {pp:List Int}
  (hA:∀ W,Below w.heap.size w W→Calls Tryz.prog 35 #[uV a n cap ua un ucap mn,.int .i64 fn,.int .i64 q] W fun e w'=>∃ (a':Option Addr) (cap':Nat),e=.returned (.tuple #[plV tl a' tn cap',.bool true,.int .i64 0])∧PAt w' ⟨tl,a',tn,cap'⟩ pp∧Below W.heap.size W w')
  {t o x:Ch} (ht:Ok t) (htr:t.rg) (hoo:Ok o) (hor:o.rg) (hx:Ok x) (hxr:x.rg) (hto:alikeB t o=true) (hxt:alikeB x t=true)
  (hP:∀ W (xa:Option Addr) (xc:Nat),Below w.heap.size w W→PAt W ⟨tl,xa,tn,xc⟩ pp→Calls Tryz.prog 17 #[uV a n cap ua un ucap mn,.int .i64 fn,plV tl xa tn xc] W fun e w'=>∃ f':Fv,e=.returned (.tuple #[f'.v,.int .i64 0])∧New W w' f' t)
  (hE:∀ W (f:Fv),TyAt W f t.ty→Calls Tryz.prog 29 #[f.v] W fun e w'=>∃ f':Fv,e=.returned (.tuple #[f'.v,.int .i64 0])∧New W w' f' x)
  (hG:∀ W (xa:Option Addr) (xc:Nat),Below w.heap.size w W→PAt W ⟨tl,xa,tn,xc⟩ pp→Calls Tryz.prog 36 #[uV a n cap ua un ucap mn,.int .i64 fn,plV tl xa tn xc] W fun e w'=>∃ f':Fv,e=.returned (.tuple #[f'.v,.int .i64 0])∧New W w' f' o)
  (hBo:∀ W,Below w.heap.size w W→Calls Tryz.prog 22 #[uV a n cap ua un ucap mn,.int .i64 fn,.int .i64 q] W fun e w'=>e=.returned (.tuple #[zT.v,.int .i64 130])∧Below W.heap.size W w')
  {an:Ch} {L:List Ch} {pn:Nat} {os:List Opd} (han:Ok an) (hanr:an.rg) (hant:alikeB an t=true) (hL:L.length=pn) (hpn:pn≤512) (hLo:∀ c∈L,Ok c∧c.rg)
  (hCa:∀ W,Below w.heap.size w W→Calls Tryz.prog 23 #[uV a n cap ua un ucap mn,.int .i64 fn,.int .i64 q] W fun e w'=>∃ (aP:Option Addr) (cP:Nat) (f':Fv),e=.returned (.tuple #[.slice aP pn cP,f'.v,.int .i64 0])∧(∃ fl lo hi,FRow w' W.heap.size (.slice aP pn cP) L fl lo hi)∧New W w' f' an)
  (hOp:∀ W,Below w.heap.size w W→Calls Tryz.prog 37 #[uV a n cap ua un ucap mn,.int .i64 fn,.int .i64 q] W fun e w'=>∃ (a':Option Addr) (cap':Nat),e=.returned (.tuple #[.slice a' pn cap',.int .i64 0])∧OL w' a' pn cap' os∧Below W.heap.size W w')
  (hPo:∀ (i:Nat) (o:Opd),os[i]?=some o→(o.k=3∨o.k=4)→∃ y c,L[i]?=some c∧Ok y∧y.rg∧alikeB y c=true∧∀ W (xa:Option Addr) (xn xc:Nat),Below w.heap.size w W→PAt W ⟨o.pl.l,xa,xn,xc⟩ o.pl.p→Calls Tryz.prog 17 #[uV a n cap ua un ucap mn,.int .i64 fn,plV o.pl.l xa xn xc] W fun e w'=>∃ f':Fv,e=.returned (.tuple #[f'.v,.int .i64 0])∧New W w' f' y):Calls Tryz.prog 7 #[uV a n cap ua un ucap mn,.int .i64 fn,.int .i64 q] w fun e w'=>e=.returned (.bool true)∧Below w.heap.size w w':=by
 have CA:Hid (∀ W,Calls Tryz.prog 9 #[] W fun e w'=>e=.returned (.bool true)∧Below W.heap.size W w'):=awake_true
 obtain ⟨V,hV⟩:∃ V,V=w.alloc (uO a n cap ua un ucap mn):=⟨_,rfl⟩
 have hB:Below w.heap.size w V:=by rw [hV];exact belA bR
 have A2:Hid (At V w.heap.size (uO a n cap ua un ucap mn)):=jH (by rw [hV];exact At.new _ _)
 have CF:=jH (hF V hB)
 have CAS:=jH hA
 have CP:=jH hP
 have CE:=jH hE
 have CG:=jH hG
 have HTO:=jH hto
 have HXT:=jH hxt
 have HT:=jH (And.intro ht htr)
 have HO:=jH (And.intro hoo hor)
 have HX:=jH (And.intro hx hxr)
 have HB:=jH hB
 have CB:=jH hBo
 have CC:=jH hCa
 have COP:=jH hOp
 have CPO:=jH hPo
 have HAN:=jH (And.intro han (And.intro hanr hant))
 have HLL:=jH hL
 have HLO:=jH hLo
 have HPN:=jH hpn
 clear hF hA hB hP hE hG hto hxt ht htr hoo hor hx hxr hBo hCa hOp hPo han hanr hant hL hLo hpn
 go_enter Tryz.func7,Tryz.ntmps7
 go_upto_region 1 with fail
 rw [← hV]
 clear hV
 obtain ⟨u0,u1,u2⟩:=A2.out.un
 go_wp2_with (first
  | (go_at_call 8;refine CF.out.mono ?_;rintro e w1 ⟨rfl,hb1⟩;have A3:=jH (A2.out.below hb1);have HB1:=jH (jB HB.out hb1);clear hb1 u0 u1 u2;obtain ⟨u0,u1,u2⟩:=A3.out.un)
  | (go_at_call 35;refine (CAS.out _ HB1.out).mono ?_;rintro e w2 ⟨xa,xc,rfl,hp2,hb2⟩;have P4:=jH (hp2.bel (belA bR (o:=plO tl xa tn xc)));have A4:=jH ((A3.out.below hb2).below (belA bR (o:=plO tl xa tn xc)));have L4:=jH (At.new w2 (plO tl xa tn xc));have HB4:=jH (belA (jB HB1.out hb2) (o:=plO tl xa tn xc));clear hp2 hb2 u0 u1 u2;obtain ⟨u0,u1,u2⟩:=A4.out.un)
  | (go_at_call 17;refine (CP.out _ xa xc HB4.out P4.out).mono ?_;rintro e w3 ⟨⟨k1,m1,r1,s1,a1,n1,c1⟩,rfl,hN⟩;have hh:=jB hN.bel (belA bR (o:=tyO k1 m1 r1 s1 a1 n1 c1));have P5:=jH (P4.out.bel hh);have A5:=jH (A4.out.below hh);have L5:=jH (L4.out.below hh);have T5:=jH (At.new w3 (Fv.o ⟨k1,m1,r1,s1,a1,n1,c1⟩));have Y5:=jH ((hN.own.ty HT.out.2).bel (belA bR (o:=tyO k1 m1 r1 s1 a1 n1 c1)));have HB5:=jH (jB HB4.out hh);clear hN hh u0 u1 u2;obtain ⟨u0,u1,u2⟩:=A5.out.un;obtain ⟨l0,l1⟩:=L5.out.pl)
  | (go_at_call 29;refine (CE.out _ ⟨k1,m1,r1,s1,a1,n1,c1⟩ Y5.out).mono ?_;rintro e w4 ⟨⟨k2,m2,r2,s2,a2,n2,c2⟩,rfl,hN⟩;have hh:=jB hN.bel (belA bR (o:=tyO k2 m2 r2 s2 a2 n2 c2));have P6:=jH (P5.out.bel hh);have A6:=jH (A5.out.below hh);have L6:=jH (L5.out.below hh);have T6:=jH (T5.out.below hh);have Y6:=jH (Y5.out.bel hh);have X6:=jH (At.new w4 (Fv.o ⟨k2,m2,r2,s2,a2,n2,c2⟩));have Z6:=jH ((hN.own.ty HX.out.2).bel (belA bR (o:=tyO k2 m2 r2 s2 a2 n2 c2)));have HB6:=jH (jB HB5.out hh);clear hN hh u0 u1 u2 l0 l1;obtain ⟨u0,u1,u2⟩:=A6.out.un;obtain ⟨l0,l1⟩:=L6.out.pl)
  | (go_at_call 36;refine (CG.out _ xa xc HB6.out P6.out).mono ?_;rintro e w5 ⟨⟨k3,m3,r3,s3,a3,n3,c3⟩,rfl,hN⟩;have hh:=jB hN.bel (belA bR (o:=tyO k3 m3 r3 s3 a3 n3 c3));have P7:=jH (P6.out.bel hh);have A7:=jH (A6.out.below hh);have T7:=jH (T6.out.below hh);have X7:=jH (X6.out.below hh);have Y7:=jH (Y6.out.bel hh);have Z7:=jH (Z6.out.bel hh);have O7:=jH ((hN.own.ty HO.out.2).bel (belA bR (o:=tyO k3 m3 r3 s3 a3 n3 c3)));have HB7:=jH (jB HB6.out hh);clear hN hh u0 u1 u2 l0 l1;obtain ⟨u0,u1,u2⟩:=A7.out.un;obtain ⟨tl7,t0,t1,t2,t3,t4⟩:=T7.out.ty;obtain ⟨xl7,x0,x1,x2,x3,x4⟩:=X7.out.ty;simp only [Nat.zero_add] at t0 t1 t2 t3 t4 x0 x1 x2 x3 x4)
  | (go_at_call 34;(with_reducible refine (Alike_true t o ⟨k1,m1,r1,s1,a1,n1,c1⟩ ⟨k3,m3,r3,s3,a3,n3,c3⟩ _ Y7.out O7.out HT.out.1 HO.out.1 HTO.out).mono ?_);rintro e w6 ⟨rfl,hh⟩;have A8:=jH (A7.out.below hh);have T8:=jH (T7.out.below hh);have X8:=jH (X7.out.below hh);have Y8:=jH (Y7.out.bel hh);have Z8:=jH (Z7.out.bel hh);have HB8:=jH (jB HB7.out hh);clear hh u0 u1 u2 tl7 t0 t1 t2 t3 t4 xl7 x0 x1 x2 x3 x4;obtain ⟨u0,u1,u2⟩:=A8.out.un;obtain ⟨tl7,t0,t1,t2,t3,t4⟩:=T8.out.ty;obtain ⟨xl7,x0,x1,x2,x3,x4⟩:=X8.out.ty;simp only [Nat.zero_add] at t0 t1 t2 t3 t4 x0 x1 x2 x3 x4)
  | (go_at_call 34;(with_reducible refine (Alike_true x t ⟨k2,m2,r2,s2,a2,n2,c2⟩ ⟨k1,m1,r1,s1,a1,n1,c1⟩ _ Z8.out Y8.out HX.out.1 HT.out.1 HXT.out).mono ?_);rintro e w7 ⟨rfl,hh⟩;have A9:=jH (A8.out.below hh);have T9:=jH (T8.out.below hh);have Y9:=jH (Y8.out.bel hh);have HB9:=jH (jB HB8.out hh);clear hh u0 u1 u2 tl7 t0 t1 t2 t3 t4 xl7 x0 x1 x2 x3 x4;obtain ⟨u0,u1,u2⟩:=A9.out.un;obtain ⟨tl7,t0,t1,t2,t3,t4⟩:=T9.out.ty;simp only [Nat.zero_add] at t0 t1 t2 t3 t4)
  | (go_at_call 22;refine (CB.out _ HB9.out).mono ?_;rintro e w8 ⟨rfl,hb⟩;have hh:=jB hb (belA bR (o:=.cells #[.int .u8 0,.bool false,.int .i64 0,.int .i64 0,.slice none 0 0] 46 (0,0)));have A10:=jH (A9.out.below hh);have T10:=jH (T9.out.below hh);have Y10:=jH (Y9.out.bel hh);have HB10:=jH (jB HB9.out hh);clear hb hh u0 u1 u2 tl7 t0 t1 t2 t3 t4;obtain ⟨u0,u1,u2⟩:=A10.out.un)
  | (go_at_call 23;refine (CC.out _ HB10.out).mono ?_;rintro e w9 ⟨aP,cP,⟨k5,m5,r5,s5,a5,n5,c5⟩,rfl,⟨fl,lo,hi,hR⟩,hN⟩;have hh:=jB hN.bel (belA bR (o:=tyO k5 m5 r5 s5 a5 n5 c5));have A11:=jH (A10.out.below hh);have T11:=jH (T10.out.below hh);have Y11:=jH (Y10.out.bel hh);have R11:=jH (hR.bel (belA bR (o:=tyO k5 m5 r5 s5 a5 n5 c5)));have N11:=jH (At.new w9 (Fv.o ⟨k5,m5,r5,s5,a5,n5,c5⟩));have AN11:=jH ((hN.own.ty HAN.out.2.1).bel (belA bR (o:=tyO k5 m5 r5 s5 a5 n5 c5)));have HB11:=jH (jB HB10.out hh);clear hN hh hR u0 u1 u2;obtain ⟨u0,u1,u2⟩:=A11.out.un)
  | (go_at_call 37;refine (COP.out _ HB11.out).mono ?_;rintro e w10 ⟨a6,c6,rfl,hO6,hh⟩;have A12:=jH (A11.out.below hh);have T12:=jH (T11.out.below hh);have Y12:=jH (Y11.out.bel hh);have N12:=jH (N11.out.below hh);have AN12:=jH (AN11.out.bel hh);have R12:=jH (R11.out.bel hh);have OL12:=jH hO6;have HB12:=jH (jB HB11.out hh);clear hO6 hh u0 u1 u2;obtain ⟨u0,u1,u2⟩:=A12.out.un;obtain ⟨tl7,t0,t1,t2,t3,t4⟩:=T12.out.ty;obtain ⟨nl7,n0,n1',n2',n3',n4'⟩:=N12.out.ty;simp only [Nat.zero_add] at t0 t1 t2 t3 t4 n0 n1' n2' n3' n4')
  | (go_at_call 34;(with_reducible refine (Alike_true an t ⟨k5,m5,r5,s5,a5,n5,c5⟩ ⟨k1,m1,r1,s1,a1,n1,c1⟩ _ AN12.out Y12.out HAN.out.1 HT.out.1 HAN.out.2.2).mono ?_);rintro e w11 ⟨rfl,hh⟩;have A13:=jH (A12.out.below hh);have R13:=jH (R12.out.bel hh);have OL13:=jH (OL12.out.bel hh);have HB13:=jH (jB HB12.out hh);clear hh u0 u1 u2 tl7 t0 t1 t2 t3 t4 nl7 n0 n1' n2' n3' n4'))
 have hpb:(pn:Int)≤512:=by have:=HPN.out;omega
 clear CB CC COP HTO HXT HO HX HT HAN CF CAS CP CE CG A2 A3 A4 A5 A6 A7 A8 A9 A10 A11 A12 HB HB1 HB4 HB5 HB6 HB7 HB8 HB9 HB10 HB11 HB12 L4 L5 L6 P4 P5 P6 P7 T5 T6 T7 T8 T9 T10 T11 T12 X6 X7 X8 Y5 Y6 Y7 Y8 Y9 Y10 Y11 Y12 Z6 Z7 Z8 O7 R11 R12 N11 N12 AN11 AN12 OL12
 go_loopw [19] (fun v W=>∃ i:Nat,i≤pn∧v=.int .i64 (i:Int)∧Below w11.heap.size w11 W) (fun v _=>pn - (intOf v).toNat)
 case atStart=>exact ⟨0,Nat.zero_le _,rfl,Below.refl _ _⟩
 case round =>
  obtain ⟨i,hi5,rfl,hbw⟩:=hrel
  have HBW:=jH hbw
  clear hbw
  by_cases hlt:i<pn
  ·obtain ⟨o,hq⟩:∃ o,os[i]?=some o:=⟨_,List.getElem?_eq_getElem (by have:=OL13.out.len;omega)⟩
   obtain ⟨g,off,⟨k,nn,l,pa,m,pc⟩,ea,hgl,⟨c0,c1,c2,c3⟩,hOA⟩:=OL13.out.one hq
   subst ea
   have hgw:g<wr.heap.size:=Nat.lt_of_lt_of_le hgl HBW.out.size
   have y0:=(HBW.out.cell (p:=⟨g,off+i*4,none⟩) hgl).trans c0
   have y1:=(HBW.out.cell (p:=⟨g,off+i*4+1,none⟩) hgl).trans c1
   have y2:=(HBW.out.cell (p:=⟨g,off+i*4+2,none⟩) hgl).trans c2
   have y3:=(HBW.out.cell (p:=⟨g,off+i*4+3,none⟩) hgl).trans c3
   clear c0 c1 c2 c3
   have hii:(i:Int)<(pn:Int):=by omega
   have hi0:(0:Int)≤(i:Int):=by omega
   have HLT:=jH hlt
   have HQ:=jH hq
   have HOA:=jH hOA
   have HK:Hid (k=o.k):=jH hOA.k
   clear hq hOA hlt hi5
   obtain ⟨gP,capP,cc,⟨k7,m7,r7,s7,a7,n7,c7⟩,hv,hgP,-,hc7,-,hC5,hOw⟩:=R13.out.at (n:=0) (i:=i) (by have:=HLL.out;have:=HLT.out;omega)
   have evP:aP=some ⟨gP,0,none⟩:=by have:=hv;simp only [Value.slice.injEq] at this;exact this.1
   subst evP
   clear hv
   have HC5:=jH hC5
   have HOW:=jH hOw
   have HC7:=jH hc7
   clear hC5 hOw hc7
   by_cases hk3:k=3
   ·subst hk3
    have hko:o.k=3:=HK.out.symm
    obtain ⟨y,c,hLc,hOy,hyr,hyc,hPl⟩:=CPO.out i o HQ.out (.inl hko)
    have y0':wr.cell? ⟨g,off+i*4,none⟩=some (.int .u8 3):=y0
    clear y0
    have HY:=jH (And.intro hOy (And.intro hyr hyc))
    have ecc:c=cc:=by have:=HC7.out;rw [hLc] at this;exact Option.some.inj this
    subst ecc
    have CPl:Hid (∀ W,Below wr.heap.size wr W→Calls Tryz.prog 17 #[uV a n cap ua un ucap mn,.int .i64 fn,plV l pa m pc] W fun e w'=>∃ f':Fv,e=.returned (.tuple #[f'.v,.int .i64 0])∧New W w' f' y):=jH fun W hW=>by
     have hl:l=o.pl.l:=HOA.out.l
     rw [hl]
     exact hPl W pa m pc (jB (jB HB13.out HBW.out) hW) (by rw [← hl];exact HOA.out.p.bel (jB HBW.out hW))
    clear hLc hOy hyr hyc hPl hko  HK
    obtain ⟨u0,u1,u2⟩:=(A13.out.below HBW.out).un
    go_upto_region 26 with fail
    refine beginH (S:=fun W=>Below wr.heap.size wr W) (fun _ _ _ _ _ h=>h) (by kernel_rfl) bR.drew (fun hq hH=>?_)
    refine tq 0 154 (.agg #[.slice a n cap,.slice ua un ucap,.int .i64 mn]) hq rfl rfl (fun W hSw=>by (obtain ⟨v0,v1,v2⟩:=((A13.out.below HBW.out).below hSw).un;go_simp;try rfl)) hH ?_
    simp only [pb,Go.Proofs.YtdlggpcakaofoaaGreat.pc]
    refine tz 1 155 _ hq rfl rfl hH ?_
    simp only [pb,Go.Proofs.YtdlggpcakaofoaaGreat.pc]
    refine tz 2 156 _ hq rfl rfl hH ?_
    simp only [pb,Go.Proofs.YtdlggpcakaofoaaGreat.pc]
    refine tz 3 157 _ hq rfl rfl hH ?_
    simp only [pb,Go.Proofs.YtdlggpcakaofoaaGreat.pc]
    refine tz 4 158 (.pointer (some ⟨g,off+i*4,none⟩)) hq rfl rfl hH ?_
    simp only [pb,Go.Proofs.YtdlggpcakaofoaaGreat.pc]
    refine tz 5 159 (.pointer (some ⟨g,off+i*4+2,none⟩)) hq rfl rfl hH ?_
    simp only [pb,Go.Proofs.YtdlggpcakaofoaaGreat.pc]
    refine tq 6 160 (plV l pa m pc) hq rfl rfl (fun W hSw=>by (have z2:=(hSw.cell (p:=⟨g,off+i*4+2,none⟩) hgw).trans y2;have z3:=(hSw.cell (p:=⟨g,off+i*4+3,none⟩) hgw).trans y3;go_simp;try rfl)) hH ?_
    simp only [pb,Go.Proofs.YtdlggpcakaofoaaGreat.pc]
    generalize wr.drew=W0 at hH ⊢
    refine aRd [7,11] ?_
    refine AllReadyH.cons rfl (fun K hK=>?_) (AllReadyH.cons rfl (fun K hK=>?_) AllReadyH.nil)
    ·go_simp
     refine (CPl.out _ hH).mono ?_
     rintro e w12 ⟨⟨k6,m6,r6,s6,a6,n6,c6⟩,rfl,hN⟩
     have HN:=jH hN
     have HW0:=jH hH
     go_wp2_with fail
     refine hK.out _ _ (jB HW0.out HN.out.bel) (fun hHeld2=>?_)
     clear hK K hH hN
     have hH:=hHeld2
     clear hHeld2
     try simp only [Act.put,List.setIfInBounds_toArray,pb,Go.Proofs.YtdlggpcakaofoaaGreat.pc]
     refine tz 8 153 _ hq rfl rfl hH ?_
     simp only [pb,Go.Proofs.YtdlggpcakaofoaaGreat.pc]
     refine tz 9 162 (tyV k6 m6 r6 s6 a6 n6 c6) hq rfl rfl hH ?_
     simp only [pb,Go.Proofs.YtdlggpcakaofoaaGreat.pc]
     refine tz 10 163 (.int .i64 0) hq rfl rfl hH ?_
     simp only [pb,Go.Proofs.YtdlggpcakaofoaaGreat.pc]
     refine aR1 11 rfl (fun K hK=>?_)
     go_simp
     go_wp2_with fail
     refine hK.out _ _ (belA hH) (fun hHeld2=>?_)
     clear hK K hH
     have hH:=hHeld2
     clear hHeld2
     try simp only [Act.put,List.setIfInBounds_toArray,pb,Go.Proofs.YtdlggpcakaofoaaGreat.pc]
     have HA6:Hid (At (w12.alloc (.cells #[.int .u8 0,.bool false,.int .i64 0,.int .i64 0,.slice none 0 0] 46 (0,0))) w12.heap.size zT.o):=jH (At.new _ _)
     refine aRd [12] ?_
     refine AllReadyH.cons (o:={ dst:=none,op:=.store 46 (.tmp 20) (.tmp 162),type:=0,pos := "outright.go:105",after:=_,guard:=none }) rfl (fun K hK=>?_) AllReadyH.nil
     rw [if_pos (by rfl)]
     refine wp_store_mid 46 (.tmp 20) (.tmp 162) rfl w12.heap.size 0 (t5 ⟨k6,m6,r6,s6,a6,n6,c6⟩).toArray rfl rfl (fun j hj=>?_) size46 (all_oneCell_toArray (t5_ones _)) ?_
     ·have hA:=HA6.out
      unfold At at hA
      refine ⟨?_,frozen_of_row _ _ _ _ _ hA⟩
      rw [cell_of_row _ _ _ _ _ _ hA,Nat.zero_add]
      have:j<5:=hj
      simp [zT,Fv.o,this]
     have hbs:Below wr.heap.size wr ((w12.alloc (.cells #[.int .u8 0,.bool false,.int .i64 0,.int .i64 0,.slice none 0 0] 46 (0,0))).setCells w12.heap.size 0 (t5 ⟨k6,m6,r6,s6,a6,n6,c6⟩)):=hH.grown (but_setCells _ _ _ _) hH.size (fun k e=>by cases e;exact (jB HW0.out HN.out.bel).size)
     refine hK.out _ _ hbs (fun hHeld2=>?_)
     clear hK K
     try simp only [Act.put,List.setIfInBounds_toArray,pb,Go.Proofs.YtdlggpcakaofoaaGreat.pc]
     clear hH
     have hH:=hbs
     clear hHeld2 hbs
     refine tz 13 21 (.int .i64 0) hq rfl rfl hH ?_
     simp only [pb,Go.Proofs.YtdlggpcakaofoaaGreat.pc]
     refine wpAnyH_done (by kernel_rfl) ?_ _
     have hE:(w12.alloc (.cells #[.int .u8 0,.bool false,.int .i64 0,.int .i64 0,.slice none 0 0] 46 (0,0))).setCells w12.heap.size 0 (t5 ⟨k6,m6,r6,s6,a6,n6,c6⟩)=S5 (w12.alloc (.cells #[.int .u8 0,.bool false,.int .i64 0,.int .i64 0,.slice none 0 0] 46 (0,0))) w12.heap.size ⟨k6,m6,r6,s6,a6,n6,c6⟩:=rfl
     rw [hE] at hH ⊢
     have AE:Hid (At (S5 (w12.alloc (.cells #[.int .u8 0,.bool false,.int .i64 0,.int .i64 0,.slice none 0 0] 46 (0,0))) w12.heap.size ⟨k6,m6,r6,s6,a6,n6,c6⟩) w12.heap.size (Fv.o ⟨k6,m6,r6,s6,a6,n6,c6⟩)):=jH (HA6.out.set5 ⟨k6,m6,r6,s6,a6,n6,c6⟩)
     have TE:Hid (TyAt (S5 (w12.alloc (.cells #[.int .u8 0,.bool false,.int .i64 0,.int .i64 0,.slice none 0 0] 46 (0,0))) w12.heap.size ⟨k6,m6,r6,s6,a6,n6,c6⟩) ⟨k6,m6,r6,s6,a6,n6,c6⟩ y.ty):=jH ((HN.out.own.ty HY.out.2.1).bel (below_s5 (belA bR) (Nat.le_refl _) _))
     have HE:=jH hH
     clear hH hE hq
     generalize (S5 (w12.alloc (.cells #[.int .u8 0,.bool false,.int .i64 0,.int .i64 0,.slice none 0 0] 46 (0,0))) w12.heap.size ⟨k6,m6,r6,s6,a6,n6,c6⟩)=E at HE AE TE ⊢
     have LE:Hid (C5 E gP (i*5) ⟨k7,m7,r7,s7,a7,n7,c7⟩∧TyAt E ⟨k7,m7,r7,s7,a7,n7,c7⟩ c.ty):=jH ⟨HC5.out.below (jB HBW.out HE.out),(HOW.out.ty (HLO.out c (List.mem_of_getElem? HC7.out)).2).bel (jB HBW.out HE.out)⟩
     have CAL:=jH (fun W (hW:Below E.heap.size E W)=>Alike_true y c ⟨k6,m6,r6,s6,a6,n6,c6⟩ ⟨k7,m7,r7,s7,a7,n7,c7⟩ W (TE.out.bel hW) (LE.out.2.bel hW) HY.out.1 (HLO.out c (List.mem_of_getElem? HC7.out)).1 HY.out.2.2)
     go_upto_region 27 with fail
     refine beginH (S:=fun W=>Below E.heap.size E W) (fun _ _ _ _ _ h=>h) (by kernel_rfl) bR.drew (fun hq hH=>?_)
     refine tz 0 164 (.int .i64 0) hq rfl rfl hH ?_
     simp only [pb,Go.Proofs.YtdlggpcakaofoaaGreat.pc]
     refine tz 1 165 (.bool false) hq rfl rfl hH ?_
     simp only [pb,Go.Proofs.YtdlggpcakaofoaaGreat.pc]
     refine tz 2 166 (.bool false) hq rfl rfl hH ?_
     simp only [pb,Go.Proofs.YtdlggpcakaofoaaGreat.pc]
     refine tq 3 167 (tyV k6 m6 r6 s6 a6 n6 c6) hq rfl rfl (fun W hSw=>by (obtain ⟨-,z0,z1,z2,z3,z4⟩:=(AE.out.below hSw).ty;simp only [Nat.zero_add] at z0 z1 z2 z3 z4;go_simp;try rfl)) hH ?_
     simp only [pb,Go.Proofs.YtdlggpcakaofoaaGreat.pc]
     refine tz 4 168 _ hq rfl rfl hH ?_
     simp only [pb,Go.Proofs.YtdlggpcakaofoaaGreat.pc]
     refine tz 5 169 _ hq rfl rfl hH ?_
     simp only [pb,Go.Proofs.YtdlggpcakaofoaaGreat.pc]
     refine tz 6 170 (.pointer (some ⟨gP,i*5,none⟩)) hq rfl rfl hH ?_
     simp only [pb,Go.Proofs.YtdlggpcakaofoaaGreat.pc]
     refine tq 7 171 (tyV k7 m7 r7 s7 a7 n7 c7) hq rfl rfl (fun W hSw=>by (obtain ⟨-,z0,z1,z2,z3,z4⟩:=LE.out.1.below hSw;go_simp;try rfl)) hH ?_
     simp only [pb,Go.Proofs.YtdlggpcakaofoaaGreat.pc]
     refine aR1 8 rfl (fun K hK=>?_)
     go_simp
     refine (CAL.out _ hH).mono ?_;rintro e w13 ⟨rfl,hb⟩;have hb2:Below E.heap.size E w13:=jB hH hb
     go_wp2_with fail
     refine hK.out _ _ hb2 (fun hH=>?_)
     clear hK K
     try simp only [Act.put,List.setIfInBounds_toArray,pb,Go.Proofs.YtdlggpcakaofoaaGreat.pc]
     refine tz 9 173 (.bool false) hq rfl rfl hH ?_
     simp only [pb,Go.Proofs.YtdlggpcakaofoaaGreat.pc]
     refine tz 10 174 (.bool false) hq rfl rfl hH ?_
     simp only [pb,Go.Proofs.YtdlggpcakaofoaaGreat.pc]
     refine wpAnyH_done (by kernel_rfl) ?_ _
     have HLAST:=jH (jB HE.out hH)
     clear hH hq
     go_wp2_with fail
     refine ⟨⟨i+1,HLT.out,rfl,jB HBW.out HLAST.out⟩,?_⟩
     show pn - ((i:Int)+1).toNat<pn - (i:Int).toNat
     have:=HLT.out
     omega
    ·go_simp
     go_wp2_with fail
     refine hK.out _ _ (belA hH) (fun hHeld2=>?_)
     clear hK K
     have HW0:=jH hH
     clear hH
     have hH:=hHeld2
     clear hHeld2
     try simp only [Act.put,List.setIfInBounds_toArray,pb,Go.Proofs.YtdlggpcakaofoaaGreat.pc]
     have HA5:Hid (At (W0.alloc (.cells #[.int .u8 0,.bool false,.int .i64 0,.int .i64 0,.slice none 0 0] 46 (0,0))) W0.heap.size zT.o):=jH (At.new _ _)
     refine aR1 7 rfl (fun K hK=>?_)
     go_simp
     refine (CPl.out _ hH).mono ?_
     rintro e w12 ⟨⟨k6,m6,r6,s6,a6,n6,c6⟩,rfl,hN⟩
     have HN:=jH hN
     go_wp2_with fail
     have hb9:Below wr.heap.size wr w12:=jB hH HN.out.bel
     refine hK.out _ _ hb9 (fun hHeld2=>?_)
     clear hK K hH hN hHeld2
     have hH:=hb9
     try simp only [Act.put,List.setIfInBounds_toArray,pb,Go.Proofs.YtdlggpcakaofoaaGreat.pc]
     refine tz 8 153 _ hq rfl rfl hH ?_
     simp only [pb,Go.Proofs.YtdlggpcakaofoaaGreat.pc]
     refine tz 9 162 (tyV k6 m6 r6 s6 a6 n6 c6) hq rfl rfl hH ?_
     simp only [pb,Go.Proofs.YtdlggpcakaofoaaGreat.pc]
     refine tz 10 163 (.int .i64 0) hq rfl rfl hH ?_
     simp only [pb,Go.Proofs.YtdlggpcakaofoaaGreat.pc]
     have HA6:=jH (HA5.out.below HN.out.bel)
     refine aRd [12] ?_
     refine AllReadyH.cons (o:={ dst:=none,op:=.store 46 (.tmp 20) (.tmp 162),type:=0,pos := "outright.go:105",after:=_,guard:=none }) rfl (fun K hK=>?_) AllReadyH.nil
     rw [if_pos (by rfl)]
     refine wp_store_mid 46 (.tmp 20) (.tmp 162) rfl W0.heap.size 0 (t5 ⟨k6,m6,r6,s6,a6,n6,c6⟩).toArray rfl rfl (fun j hj=>?_) size46 (all_oneCell_toArray (t5_ones _)) ?_
     ·have hA:=HA6.out
      unfold At at hA
      refine ⟨?_,frozen_of_row _ _ _ _ _ hA⟩
      rw [cell_of_row _ _ _ _ _ _ hA,Nat.zero_add]
      have:j<5:=hj
      simp [zT,Fv.o,this]
     have hbs:Below wr.heap.size wr (w12.setCells W0.heap.size 0 (t5 ⟨k6,m6,r6,s6,a6,n6,c6⟩)):=hH.grown (but_setCells _ _ _ _) hH.size (fun k e=>by cases e;exact HW0.out.size)
     refine hK.out _ _ hbs (fun hHeld2=>?_)
     clear hK K
     try simp only [Act.put,List.setIfInBounds_toArray,pb,Go.Proofs.YtdlggpcakaofoaaGreat.pc]
     clear hH
     have hH:=hbs
     clear hHeld2 hbs
     refine tz 13 21 (.int .i64 0) hq rfl rfl hH ?_
     simp only [pb,Go.Proofs.YtdlggpcakaofoaaGreat.pc]
     refine wpAnyH_done (by kernel_rfl) ?_ _
     have hE:w12.setCells W0.heap.size 0 (t5 ⟨k6,m6,r6,s6,a6,n6,c6⟩)=S5 w12 W0.heap.size ⟨k6,m6,r6,s6,a6,n6,c6⟩:=rfl
     rw [hE] at hH ⊢
     have AE:Hid (At (S5 w12 W0.heap.size ⟨k6,m6,r6,s6,a6,n6,c6⟩) W0.heap.size (Fv.o ⟨k6,m6,r6,s6,a6,n6,c6⟩)):=jH (HA6.out.set5 ⟨k6,m6,r6,s6,a6,n6,c6⟩)
     have TE:Hid (TyAt (S5 w12 W0.heap.size ⟨k6,m6,r6,s6,a6,n6,c6⟩) ⟨k6,m6,r6,s6,a6,n6,c6⟩ y.ty):=jH (OwnL.ty (HN.out.own.keep fun g0 o0 h1 h2 hA=>hA.S5 (by { have:(W0.alloc (.cells #[.int .u8 0,.bool false,.int .i64 0,.int .i64 0,.slice none 0 0] 46 (0,0))).heap.size=W0.heap.size+1:=(by simp);omega }) _) HY.out.2.1)
     have HE:=jH hH
     clear hH hE hq
     generalize (S5 w12 W0.heap.size ⟨k6,m6,r6,s6,a6,n6,c6⟩)=E at HE AE TE ⊢
     have LE:Hid (C5 E gP (i*5) ⟨k7,m7,r7,s7,a7,n7,c7⟩∧TyAt E ⟨k7,m7,r7,s7,a7,n7,c7⟩ c.ty):=jH ⟨HC5.out.below (jB HBW.out HE.out),(HOW.out.ty (HLO.out c (List.mem_of_getElem? HC7.out)).2).bel (jB HBW.out HE.out)⟩
     have CAL:=jH (fun W (hW:Below E.heap.size E W)=>Alike_true y c ⟨k6,m6,r6,s6,a6,n6,c6⟩ ⟨k7,m7,r7,s7,a7,n7,c7⟩ W (TE.out.bel hW) (LE.out.2.bel hW) HY.out.1 (HLO.out c (List.mem_of_getElem? HC7.out)).1 HY.out.2.2)
     go_upto_region 27 with fail
     refine beginH (S:=fun W=>Below E.heap.size E W) (fun _ _ _ _ _ h=>h) (by kernel_rfl) bR.drew (fun hq hH=>?_)
     refine tz 0 164 (.int .i64 0) hq rfl rfl hH ?_
     simp only [pb,Go.Proofs.YtdlggpcakaofoaaGreat.pc]
     refine tz 1 165 (.bool false) hq rfl rfl hH ?_
     simp only [pb,Go.Proofs.YtdlggpcakaofoaaGreat.pc]
     refine tz 2 166 (.bool false) hq rfl rfl hH ?_
     simp only [pb,Go.Proofs.YtdlggpcakaofoaaGreat.pc]
     refine tq 3 167 (tyV k6 m6 r6 s6 a6 n6 c6) hq rfl rfl (fun W hSw=>by (obtain ⟨-,z0,z1,z2,z3,z4⟩:=(AE.out.below hSw).ty;simp only [Nat.zero_add] at z0 z1 z2 z3 z4;go_simp;try rfl)) hH ?_
     simp only [pb,Go.Proofs.YtdlggpcakaofoaaGreat.pc]
     refine tz 4 168 _ hq rfl rfl hH ?_
     simp only [pb,Go.Proofs.YtdlggpcakaofoaaGreat.pc]
     refine tz 5 169 _ hq rfl rfl hH ?_
     simp only [pb,Go.Proofs.YtdlggpcakaofoaaGreat.pc]
     refine tz 6 170 (.pointer (some ⟨gP,i*5,none⟩)) hq rfl rfl hH ?_
     simp only [pb,Go.Proofs.YtdlggpcakaofoaaGreat.pc]
     refine tq 7 171 (tyV k7 m7 r7 s7 a7 n7 c7) hq rfl rfl (fun W hSw=>by (obtain ⟨-,z0,z1,z2,z3,z4⟩:=LE.out.1.below hSw;go_simp;try rfl)) hH ?_
     simp only [pb,Go.Proofs.YtdlggpcakaofoaaGreat.pc]
     refine aR1 8 rfl (fun K hK=>?_)
     go_simp
     refine (CAL.out _ hH).mono ?_;rintro e w13 ⟨rfl,hb⟩;have hb2:Below E.heap.size E w13:=jB hH hb
     go_wp2_with fail
     refine hK.out _ _ hb2 (fun hH=>?_)
     clear hK K
     try simp only [Act.put,List.setIfInBounds_toArray,pb,Go.Proofs.YtdlggpcakaofoaaGreat.pc]
     refine tz 9 173 (.bool false) hq rfl rfl hH ?_
     simp only [pb,Go.Proofs.YtdlggpcakaofoaaGreat.pc]
     refine tz 10 174 (.bool false) hq rfl rfl hH ?_
     simp only [pb,Go.Proofs.YtdlggpcakaofoaaGreat.pc]
     refine wpAnyH_done (by kernel_rfl) ?_ _
     have HLAST:=jH (jB HE.out hH)
     clear hH hq
     go_wp2_with fail
     refine ⟨⟨i+1,HLT.out,rfl,jB HBW.out HLAST.out⟩,?_⟩
     show pn - ((i:Int)+1).toNat<pn - (i:Int).toNat
     have:=HLT.out
     omega
   ·by_cases hk4:k=4
    ·subst hk4
     have hko:o.k=4:=HK.out.symm
     obtain ⟨y,c,hLc,hOy,hyr,hyc,hPl⟩:=CPO.out i o HQ.out (.inr hko)
     have y0':wr.cell? ⟨g,off+i*4,none⟩=some (.int .u8 4):=y0
     clear y0
     have HY:=jH (And.intro hOy (And.intro hyr hyc))
     have ecc:c=cc:=by have:=HC7.out;rw [hLc] at this;exact Option.some.inj this
     subst ecc
     have CPl:Hid (∀ W,Below wr.heap.size wr W→Calls Tryz.prog 17 #[uV a n cap ua un ucap mn,.int .i64 fn,plV l pa m pc] W fun e w'=>∃ f':Fv,e=.returned (.tuple #[f'.v,.int .i64 0])∧New W w' f' y):=jH fun W hW=>by
      have hl:l=o.pl.l:=HOA.out.l
      rw [hl]
      exact hPl W pa m pc (jB (jB HB13.out HBW.out) hW) (by rw [← hl];exact HOA.out.p.bel (jB HBW.out hW))
     clear hLc hOy hyr hyc hPl hko hk3 HK
     obtain ⟨u0,u1,u2⟩:=(A13.out.below HBW.out).un
     go_upto_region 26 with fail
     refine beginH (S:=fun W=>Below wr.heap.size wr W) (fun _ _ _ _ _ h=>h) (by kernel_rfl) bR.drew (fun hq hH=>?_)
     refine tq 0 154 (.agg #[.slice a n cap,.slice ua un ucap,.int .i64 mn]) hq rfl rfl (fun W hSw=>by (obtain ⟨v0,v1,v2⟩:=((A13.out.below HBW.out).below hSw).un;go_simp;try rfl)) hH ?_
     simp only [pb,Go.Proofs.YtdlggpcakaofoaaGreat.pc]
     refine tz 1 155 _ hq rfl rfl hH ?_
     simp only [pb,Go.Proofs.YtdlggpcakaofoaaGreat.pc]
     refine tz 2 156 _ hq rfl rfl hH ?_
     simp only [pb,Go.Proofs.YtdlggpcakaofoaaGreat.pc]
     refine tz 3 157 _ hq rfl rfl hH ?_
     simp only [pb,Go.Proofs.YtdlggpcakaofoaaGreat.pc]
     refine tz 4 158 (.pointer (some ⟨g,off+i*4,none⟩)) hq rfl rfl hH ?_
     simp only [pb,Go.Proofs.YtdlggpcakaofoaaGreat.pc]
     refine tz 5 159 (.pointer (some ⟨g,off+i*4+2,none⟩)) hq rfl rfl hH ?_
     simp only [pb,Go.Proofs.YtdlggpcakaofoaaGreat.pc]
     refine tq 6 160 (plV l pa m pc) hq rfl rfl (fun W hSw=>by (have z2:=(hSw.cell (p:=⟨g,off+i*4+2,none⟩) hgw).trans y2;have z3:=(hSw.cell (p:=⟨g,off+i*4+3,none⟩) hgw).trans y3;go_simp;try rfl)) hH ?_
     simp only [pb,Go.Proofs.YtdlggpcakaofoaaGreat.pc]
     generalize wr.drew=W0 at hH ⊢
     refine aRd [7,11] ?_
     refine AllReadyH.cons rfl (fun K hK=>?_) (AllReadyH.cons rfl (fun K hK=>?_) AllReadyH.nil)
     ·go_simp
      refine (CPl.out _ hH).mono ?_
      rintro e w12 ⟨⟨k6,m6,r6,s6,a6,n6,c6⟩,rfl,hN⟩
      have HN:=jH hN
      have HW0:=jH hH
      go_wp2_with fail
      refine hK.out _ _ (jB HW0.out HN.out.bel) (fun hHeld2=>?_)
      clear hK K hH hN
      have hH:=hHeld2
      clear hHeld2
      try simp only [Act.put,List.setIfInBounds_toArray,pb,Go.Proofs.YtdlggpcakaofoaaGreat.pc]
      refine tz 8 153 _ hq rfl rfl hH ?_
      simp only [pb,Go.Proofs.YtdlggpcakaofoaaGreat.pc]
      refine tz 9 162 (tyV k6 m6 r6 s6 a6 n6 c6) hq rfl rfl hH ?_
      simp only [pb,Go.Proofs.YtdlggpcakaofoaaGreat.pc]
      refine tz 10 163 (.int .i64 0) hq rfl rfl hH ?_
      simp only [pb,Go.Proofs.YtdlggpcakaofoaaGreat.pc]
      refine aR1 11 rfl (fun K hK=>?_)
      go_simp
      go_wp2_with fail
      refine hK.out _ _ (belA hH) (fun hHeld2=>?_)
      clear hK K hH
      have hH:=hHeld2
      clear hHeld2
      try simp only [Act.put,List.setIfInBounds_toArray,pb,Go.Proofs.YtdlggpcakaofoaaGreat.pc]
      have HA6:Hid (At (w12.alloc (.cells #[.int .u8 0,.bool false,.int .i64 0,.int .i64 0,.slice none 0 0] 46 (0,0))) w12.heap.size zT.o):=jH (At.new _ _)
      refine aRd [12] ?_
      refine AllReadyH.cons (o:={ dst:=none,op:=.store 46 (.tmp 20) (.tmp 162),type:=0,pos := "outright.go:105",after:=_,guard:=none }) rfl (fun K hK=>?_) AllReadyH.nil
      rw [if_pos (by rfl)]
      refine wp_store_mid 46 (.tmp 20) (.tmp 162) rfl w12.heap.size 0 (t5 ⟨k6,m6,r6,s6,a6,n6,c6⟩).toArray rfl rfl (fun j hj=>?_) size46 (all_oneCell_toArray (t5_ones _)) ?_
      ·have hA:=HA6.out
       unfold At at hA
       refine ⟨?_,frozen_of_row _ _ _ _ _ hA⟩
       rw [cell_of_row _ _ _ _ _ _ hA,Nat.zero_add]
       have:j<5:=hj
       simp [zT,Fv.o,this]
      have hbs:Below wr.heap.size wr ((w12.alloc (.cells #[.int .u8 0,.bool false,.int .i64 0,.int .i64 0,.slice none 0 0] 46 (0,0))).setCells w12.heap.size 0 (t5 ⟨k6,m6,r6,s6,a6,n6,c6⟩)):=hH.grown (but_setCells _ _ _ _) hH.size (fun k e=>by cases e;exact (jB HW0.out HN.out.bel).size)
      refine hK.out _ _ hbs (fun hHeld2=>?_)
      clear hK K
      try simp only [Act.put,List.setIfInBounds_toArray,pb,Go.Proofs.YtdlggpcakaofoaaGreat.pc]
      clear hH
      have hH:=hbs
      clear hHeld2 hbs
      refine tz 13 21 (.int .i64 0) hq rfl rfl hH ?_
      simp only [pb,Go.Proofs.YtdlggpcakaofoaaGreat.pc]
      refine wpAnyH_done (by kernel_rfl) ?_ _
      have hE:(w12.alloc (.cells #[.int .u8 0,.bool false,.int .i64 0,.int .i64 0,.slice none 0 0] 46 (0,0))).setCells w12.heap.size 0 (t5 ⟨k6,m6,r6,s6,a6,n6,c6⟩)=S5 (w12.alloc (.cells #[.int .u8 0,.bool false,.int .i64 0,.int .i64 0,.slice none 0 0] 46 (0,0))) w12.heap.size ⟨k6,m6,r6,s6,a6,n6,c6⟩:=rfl
      rw [hE] at hH ⊢
      have AE:Hid (At (S5 (w12.alloc (.cells #[.int .u8 0,.bool false,.int .i64 0,.int .i64 0,.slice none 0 0] 46 (0,0))) w12.heap.size ⟨k6,m6,r6,s6,a6,n6,c6⟩) w12.heap.size (Fv.o ⟨k6,m6,r6,s6,a6,n6,c6⟩)):=jH (HA6.out.set5 ⟨k6,m6,r6,s6,a6,n6,c6⟩)
      have TE:Hid (TyAt (S5 (w12.alloc (.cells #[.int .u8 0,.bool false,.int .i64 0,.int .i64 0,.slice none 0 0] 46 (0,0))) w12.heap.size ⟨k6,m6,r6,s6,a6,n6,c6⟩) ⟨k6,m6,r6,s6,a6,n6,c6⟩ y.ty):=jH ((HN.out.own.ty HY.out.2.1).bel (below_s5 (belA bR) (Nat.le_refl _) _))
      have HE:=jH hH
      clear hH hE hq
      generalize (S5 (w12.alloc (.cells #[.int .u8 0,.bool false,.int .i64 0,.int .i64 0,.slice none 0 0] 46 (0,0))) w12.heap.size ⟨k6,m6,r6,s6,a6,n6,c6⟩)=E at HE AE TE ⊢
      have LE:Hid (C5 E gP (i*5) ⟨k7,m7,r7,s7,a7,n7,c7⟩∧TyAt E ⟨k7,m7,r7,s7,a7,n7,c7⟩ c.ty):=jH ⟨HC5.out.below (jB HBW.out HE.out),(HOW.out.ty (HLO.out c (List.mem_of_getElem? HC7.out)).2).bel (jB HBW.out HE.out)⟩
      have CAL:=jH (fun W (hW:Below E.heap.size E W)=>Alike_true y c ⟨k6,m6,r6,s6,a6,n6,c6⟩ ⟨k7,m7,r7,s7,a7,n7,c7⟩ W (TE.out.bel hW) (LE.out.2.bel hW) HY.out.1 (HLO.out c (List.mem_of_getElem? HC7.out)).1 HY.out.2.2)
      go_upto_region 27 with fail
      refine beginH (S:=fun W=>Below E.heap.size E W) (fun _ _ _ _ _ h=>h) (by kernel_rfl) bR.drew (fun hq hH=>?_)
      refine tz 0 164 (.int .i64 0) hq rfl rfl hH ?_
      simp only [pb,Go.Proofs.YtdlggpcakaofoaaGreat.pc]
      refine tz 1 165 (.bool false) hq rfl rfl hH ?_
      simp only [pb,Go.Proofs.YtdlggpcakaofoaaGreat.pc]
      refine tz 2 166 (.bool false) hq rfl rfl hH ?_
      simp only [pb,Go.Proofs.YtdlggpcakaofoaaGreat.pc]
      refine tq 3 167 (tyV k6 m6 r6 s6 a6 n6 c6) hq rfl rfl (fun W hSw=>by (obtain ⟨-,z0,z1,z2,z3,z4⟩:=(AE.out.below hSw).ty;simp only [Nat.zero_add] at z0 z1 z2 z3 z4;go_simp;try rfl)) hH ?_
      simp only [pb,Go.Proofs.YtdlggpcakaofoaaGreat.pc]
      refine tz 4 168 _ hq rfl rfl hH ?_
      simp only [pb,Go.Proofs.YtdlggpcakaofoaaGreat.pc]
      refine tz 5 169 _ hq rfl rfl hH ?_
      simp only [pb,Go.Proofs.YtdlggpcakaofoaaGreat.pc]
      refine tz 6 170 (.pointer (some ⟨gP,i*5,none⟩)) hq rfl rfl hH ?_
      simp only [pb,Go.Proofs.YtdlggpcakaofoaaGreat.pc]
      refine tq 7 171 (tyV k7 m7 r7 s7 a7 n7 c7) hq rfl rfl (fun W hSw=>by (obtain ⟨-,z0,z1,z2,z3,z4⟩:=LE.out.1.below hSw;go_simp;try rfl)) hH ?_
      simp only [pb,Go.Proofs.YtdlggpcakaofoaaGreat.pc]
      refine aR1 8 rfl (fun K hK=>?_)
      go_simp
      refine (CAL.out _ hH).mono ?_;rintro e w13 ⟨rfl,hb⟩;have hb2:Below E.heap.size E w13:=jB hH hb
      go_wp2_with fail
      refine hK.out _ _ hb2 (fun hH=>?_)
      clear hK K
      try simp only [Act.put,List.setIfInBounds_toArray,pb,Go.Proofs.YtdlggpcakaofoaaGreat.pc]
      refine tz 9 173 (.bool false) hq rfl rfl hH ?_
      simp only [pb,Go.Proofs.YtdlggpcakaofoaaGreat.pc]
      refine tz 10 174 (.bool false) hq rfl rfl hH ?_
      simp only [pb,Go.Proofs.YtdlggpcakaofoaaGreat.pc]
      refine wpAnyH_done (by kernel_rfl) ?_ _
      have HLAST:=jH (jB HE.out hH)
      clear hH hq
      go_wp2_with fail
      refine ⟨⟨i+1,HLT.out,rfl,jB HBW.out HLAST.out⟩,?_⟩
      show pn - ((i:Int)+1).toNat<pn - (i:Int).toNat
      have:=HLT.out
      omega
     ·go_simp
      go_wp2_with fail
      refine hK.out _ _ (belA hH) (fun hHeld2=>?_)
      clear hK K
      have HW0:=jH hH
      clear hH
      have hH:=hHeld2
      clear hHeld2
      try simp only [Act.put,List.setIfInBounds_toArray,pb,Go.Proofs.YtdlggpcakaofoaaGreat.pc]
      have HA5:Hid (At (W0.alloc (.cells #[.int .u8 0,.bool false,.int .i64 0,.int .i64 0,.slice none 0 0] 46 (0,0))) W0.heap.size zT.o):=jH (At.new _ _)
      refine aR1 7 rfl (fun K hK=>?_)
      go_simp
      refine (CPl.out _ hH).mono ?_
      rintro e w12 ⟨⟨k6,m6,r6,s6,a6,n6,c6⟩,rfl,hN⟩
      have HN:=jH hN
      go_wp2_with fail
      have hb9:Below wr.heap.size wr w12:=jB hH HN.out.bel
      refine hK.out _ _ hb9 (fun hHeld2=>?_)
      clear hK K hH hN hHeld2
      have hH:=hb9
      try simp only [Act.put,List.setIfInBounds_toArray,pb,Go.Proofs.YtdlggpcakaofoaaGreat.pc]
      refine tz 8 153 _ hq rfl rfl hH ?_
      simp only [pb,Go.Proofs.YtdlggpcakaofoaaGreat.pc]
      refine tz 9 162 (tyV k6 m6 r6 s6 a6 n6 c6) hq rfl rfl hH ?_
      simp only [pb,Go.Proofs.YtdlggpcakaofoaaGreat.pc]
      refine tz 10 163 (.int .i64 0) hq rfl rfl hH ?_
      simp only [pb,Go.Proofs.YtdlggpcakaofoaaGreat.pc]
      have HA6:=jH (HA5.out.below HN.out.bel)
      refine aRd [12] ?_
      refine AllReadyH.cons (o:={ dst:=none,op:=.store 46 (.tmp 20) (.tmp 162),type:=0,pos := "outright.go:105",after:=_,guard:=none }) rfl (fun K hK=>?_) AllReadyH.nil
      rw [if_pos (by rfl)]
      refine wp_store_mid 46 (.tmp 20) (.tmp 162) rfl W0.heap.size 0 (t5 ⟨k6,m6,r6,s6,a6,n6,c6⟩).toArray rfl rfl (fun j hj=>?_) size46 (all_oneCell_toArray (t5_ones _)) ?_
      ·have hA:=HA6.out
       unfold At at hA
       refine ⟨?_,frozen_of_row _ _ _ _ _ hA⟩
       rw [cell_of_row _ _ _ _ _ _ hA,Nat.zero_add]
       have:j<5:=hj
       simp [zT,Fv.o,this]
      have hbs:Below wr.heap.size wr (w12.setCells W0.heap.size 0 (t5 ⟨k6,m6,r6,s6,a6,n6,c6⟩)):=hH.grown (but_setCells _ _ _ _) hH.size (fun k e=>by cases e;exact HW0.out.size)
      refine hK.out _ _ hbs (fun hHeld2=>?_)
      clear hK K
      try simp only [Act.put,List.setIfInBounds_toArray,pb,Go.Proofs.YtdlggpcakaofoaaGreat.pc]
      clear hH
      have hH:=hbs
      clear hHeld2 hbs
      refine tz 13 21 (.int .i64 0) hq rfl rfl hH ?_
      simp only [pb,Go.Proofs.YtdlggpcakaofoaaGreat.pc]
      refine wpAnyH_done (by kernel_rfl) ?_ _
      have hE:w12.setCells W0.heap.size 0 (t5 ⟨k6,m6,r6,s6,a6,n6,c6⟩)=S5 w12 W0.heap.size ⟨k6,m6,r6,s6,a6,n6,c6⟩:=rfl
      rw [hE] at hH ⊢
      have AE:Hid (At (S5 w12 W0.heap.size ⟨k6,m6,r6,s6,a6,n6,c6⟩) W0.heap.size (Fv.o ⟨k6,m6,r6,s6,a6,n6,c6⟩)):=jH (HA6.out.set5 ⟨k6,m6,r6,s6,a6,n6,c6⟩)
      have TE:Hid (TyAt (S5 w12 W0.heap.size ⟨k6,m6,r6,s6,a6,n6,c6⟩) ⟨k6,m6,r6,s6,a6,n6,c6⟩ y.ty):=jH (OwnL.ty (HN.out.own.keep fun g0 o0 h1 h2 hA=>hA.S5 (by { have:(W0.alloc (.cells #[.int .u8 0,.bool false,.int .i64 0,.int .i64 0,.slice none 0 0] 46 (0,0))).heap.size=W0.heap.size+1:=(by simp);omega }) _) HY.out.2.1)
      have HE:=jH hH
      clear hH hE hq
      generalize (S5 w12 W0.heap.size ⟨k6,m6,r6,s6,a6,n6,c6⟩)=E at HE AE TE ⊢
      have LE:Hid (C5 E gP (i*5) ⟨k7,m7,r7,s7,a7,n7,c7⟩∧TyAt E ⟨k7,m7,r7,s7,a7,n7,c7⟩ c.ty):=jH ⟨HC5.out.below (jB HBW.out HE.out),(HOW.out.ty (HLO.out c (List.mem_of_getElem? HC7.out)).2).bel (jB HBW.out HE.out)⟩
      have CAL:=jH (fun W (hW:Below E.heap.size E W)=>Alike_true y c ⟨k6,m6,r6,s6,a6,n6,c6⟩ ⟨k7,m7,r7,s7,a7,n7,c7⟩ W (TE.out.bel hW) (LE.out.2.bel hW) HY.out.1 (HLO.out c (List.mem_of_getElem? HC7.out)).1 HY.out.2.2)
      go_upto_region 27 with fail
      refine beginH (S:=fun W=>Below E.heap.size E W) (fun _ _ _ _ _ h=>h) (by kernel_rfl) bR.drew (fun hq hH=>?_)
      refine tz 0 164 (.int .i64 0) hq rfl rfl hH ?_
      simp only [pb,Go.Proofs.YtdlggpcakaofoaaGreat.pc]
      refine tz 1 165 (.bool false) hq rfl rfl hH ?_
      simp only [pb,Go.Proofs.YtdlggpcakaofoaaGreat.pc]
      refine tz 2 166 (.bool false) hq rfl rfl hH ?_
      simp only [pb,Go.Proofs.YtdlggpcakaofoaaGreat.pc]
      refine tq 3 167 (tyV k6 m6 r6 s6 a6 n6 c6) hq rfl rfl (fun W hSw=>by (obtain ⟨-,z0,z1,z2,z3,z4⟩:=(AE.out.below hSw).ty;simp only [Nat.zero_add] at z0 z1 z2 z3 z4;go_simp;try rfl)) hH ?_
      simp only [pb,Go.Proofs.YtdlggpcakaofoaaGreat.pc]
      refine tz 4 168 _ hq rfl rfl hH ?_
      simp only [pb,Go.Proofs.YtdlggpcakaofoaaGreat.pc]
      refine tz 5 169 _ hq rfl rfl hH ?_
      simp only [pb,Go.Proofs.YtdlggpcakaofoaaGreat.pc]
      refine tz 6 170 (.pointer (some ⟨gP,i*5,none⟩)) hq rfl rfl hH ?_
      simp only [pb,Go.Proofs.YtdlggpcakaofoaaGreat.pc]
      refine tq 7 171 (tyV k7 m7 r7 s7 a7 n7 c7) hq rfl rfl (fun W hSw=>by (obtain ⟨-,z0,z1,z2,z3,z4⟩:=LE.out.1.below hSw;go_simp;try rfl)) hH ?_
      simp only [pb,Go.Proofs.YtdlggpcakaofoaaGreat.pc]
      refine aR1 8 rfl (fun K hK=>?_)
      go_simp
      refine (CAL.out _ hH).mono ?_;rintro e w13 ⟨rfl,hb⟩;have hb2:Below E.heap.size E w13:=jB hH hb
      go_wp2_with fail
      refine hK.out _ _ hb2 (fun hH=>?_)
      clear hK K
      try simp only [Act.put,List.setIfInBounds_toArray,pb,Go.Proofs.YtdlggpcakaofoaaGreat.pc]
      refine tz 9 173 (.bool false) hq rfl rfl hH ?_
      simp only [pb,Go.Proofs.YtdlggpcakaofoaaGreat.pc]
      refine tz 10 174 (.bool false) hq rfl rfl hH ?_
      simp only [pb,Go.Proofs.YtdlggpcakaofoaaGreat.pc]
      refine wpAnyH_done (by kernel_rfl) ?_ _
      have HLAST:=jH (jB HE.out hH)
      clear hH hq
      go_wp2_with fail
      refine ⟨⟨i+1,HLT.out,rfl,jB HBW.out HLAST.out⟩,?_⟩
      show pn - ((i:Int)+1).toNat<pn - (i:Int).toNat
      have:=HLT.out
      omega
    ·have hk3':¬ ((k:Int)=3):=by omega
     have hk4':¬ ((k:Int)=4):=by omega
     have hd3:((k:Int) != 3)=true:=by simpa using hk3'
     have hd4:((k:Int) != 4)=true:=by simpa using hk4'
     clear hk3' hk4' hk3 hk4
     go_wp2_with fail
     refine ⟨⟨i+1,HLT.out,rfl,HBW.out⟩,?_⟩
     show pn - ((i:Int)+1).toNat<pn - (i:Int).toNat
     have:=HLT.out
     omega
  ·obtain rfl:i=pn:=by omega
   have lt:¬ (i:Int)<(i:Int):=by omega
   clear hlt hi5
   go_wp2_with (go_at_call 9;refine (CA.out _).mono ?_;rintro e wz ⟨rfl,hbz⟩;have HBz:=jH hbz;clear hbz)
   go_ret
   exact ⟨rfl,jB (jB HB13.out HBW.out) HBz.out⟩
end Go.Proofs.YtdlggpcakaofoaaGreat
