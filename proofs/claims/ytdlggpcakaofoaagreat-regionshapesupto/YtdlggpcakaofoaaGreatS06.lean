import Derived.Test.YtdlggpcakaofoaaGreatS05
namespace Go.Proofs.YtdlggpcakaofoaaGreat
open Go.RowKit Go.Shelf
set_option linter.unusedVariables false
set_option linter.unusedSimpArgs false
set_option maxRecDepth 100000
set_option maxHeartbeats 4000000
theorem Operands_yes (w:World) (a ua:Option Addr) (n cap un ucap:Nat) (mn fn q:Int) (pv:Pv) {p:Pnt} (hpv:PntAt w pv p) (h8:∀ o∈opsL p.op p.a p.b p.args,o.pl.p.length≤1000)
  (h:∀ W,Below w.heap.size w W→Calls Tryz.prog 63 #[uV a n cap ua un ucap mn,.int .i64 fn,.int .i64 q] W fun e w'=>e=.returned (.tuple #[.agg (pC pv).toArray,.int .i64 0])∧Below W.heap.size W w') :
  Calls Tryz.prog 37 #[uV a n cap ua un ucap mn,.int .i64 fn,.int .i64 q] w fun e w'=>∃ (a':Option Addr) (n' cap':Nat),e=.returned (.tuple #[.slice a' n' cap',.int .i64 0])∧OL w' a' n' cap' (opsL p.op p.a p.b p.args)∧Below w.heap.size w w':=by
 obtain ⟨V,hV⟩:∃ V,V=w.alloc (uO a n cap ua un ucap mn):=⟨_,rfl⟩
 have hB:Below w.heap.size w V:=by rw [hV];exact belA bR
 have A1:Hid (At V w.heap.size (uO a n cap ua un ucap mn)):=jH (by rw [hV];exact At.new _ _)
 have CG:=jH (h V hB)
 have HB:=jH hB
 have HV:=jH hV
 have CO:Hid (∀ W,Below w.heap.size w W→Calls Tryz.prog 69 #[.agg (pC pv).toArray] W fun e w'=>(∃ a n cap,e=.returned (.slice a n cap)∧OL w' a n cap (opsL p.op p.a p.b p.args))∧Below W.heap.size W w'):=jH fun W hW=>by
  have:=operandsOf_any pv.op pv.tp.l pv.tp.a pv.tp.n pv.tp.cap pv.a.k pv.a.n pv.a.x.l pv.a.x.a pv.a.x.n pv.a.x.cap pv.b.k pv.b.n pv.b.x.l pv.b.x.a pv.b.x.n pv.b.x.cap pv.ra pv.rn pv.rc pv.sg pv.fp.l pv.fp.a pv.fp.n pv.fp.cap pv.mu pv.fn pv.st pv.nx pv.el pv.ps W p.a p.b p.args (hpv.a.bel hW) (hpv.b.bel hW) (hpv.ar.bel hW)
  rw [hpv.op] at this
  rw [show pC pv=pC { pv with op:=p.op } by rw [← hpv.op]]
  exact this
 have H8:=jH h8
 obtain ⟨os,hos⟩:∃ os,os=opsL p.op p.a p.b p.args:=⟨_,rfl⟩
 rw [← hos] at CO H8 ⊢
 clear hV hB h hpv h8 hos
 go_enter Tryz.func37,Tryz.ntmps37
 go_upto_region 1 with fail
 change Code.wp _ _ _ _ (w.alloc (uO a n cap ua un ucap mn))
 rw [← HV.out]
 clear HV
 obtain ⟨u0,u1,u2⟩:=A1.out.un
 go_upto_region 2 with (first
  | (go_at_call 63;refine CG.out.mono ?_;rintro e w1 ⟨rfl,hb1⟩;have HB1:=jH hb1;clear hb1 u0 u1 u2)
  | ((with_reducible show wpList _ _ _ (Oper.mk none (Op.store 65 _ _) _ _ _ none::_) _ _);refine wpl_store64 w1.heap.size (there_new w1 _ _ 21 rfl) (by simp) pv rfl rfl ?_;intro U3 hr3 hl3 hb3;have HR3:=jH hr3;have HL3:=jH hl3;have HBT3:=jH hb3;clear hr3 hb3 hl3))
 have kb:=jH (jB HB.out (belBut (belA HB1.out) HBT3.out HB1.out.size (by have:=HB1.out.size;simp;omega)))
 obtain ⟨b9,hb9⟩:∃ b9,b9=w1.heap.size:=⟨_,rfl⟩
 rw [← hb9] at HR3 HL3 ⊢
 clear HB1 HBT3 hb9 CG A1
 have hl9:=HL3.out
 go_wp2_with (first
  | ((with_reducible show wpList _ _ _ (Oper.mk (some _) (Op.load 65 _) _ _ _ none::_) _ _);refine wpl_load64 b9 0 (pC pv) rfl rfl HR3.out Tryz.underlying65 rfl ?_)
  | (go_at_call 69;refine (CO.out _ kb.out).mono ?_;rintro e w5 ⟨⟨xa,xn,xc,rfl,ho5⟩,hb5⟩;have HO5:=jH ho5;have HB5:=jH hb5;clear ho5 hb5)
  | (go_at_call 68;refine (ownOperands_any w5 xa xn xc HO5.out H8.out).mono ?_;rintro e w6 ⟨ya,yc,rfl,ho6,hb6⟩;have HO6:=jH ho6;have HB6:=jH hb6;clear ho6 hb6))
 go_ret2
 exact ⟨ya,xn,yc,rfl,HO6.out,jB (jB kb.out HB5.out) HB6.out⟩
theorem shapes_big {w:World} {a ua:Option Addr} {n cap un ucap:Nat} {mn:Int} (fn q:Int) (hF:∀ W,Below w.heap.size w W→Calls Tryz.prog 8 #[uV a n cap ua un ucap mn] W fun e w'=>e=.returned (.bool false)∧Below W.heap.size W w'):Calls Tryz.prog 7 #[uV a n cap ua un ucap mn,.int .i64 fn,.int .i64 q] w fun e w'=>e=.returned (.bool true)∧Below w.heap.size w w':=by
 have CA:Hid (∀ W,Calls Tryz.prog 9 #[] W fun e w'=>e=.returned (.bool true)∧Below W.heap.size W w'):=awake_true
 have CF:=jH (hF (w.alloc (uO a n cap ua un ucap mn)) (belA bR))
 clear hF
 go_enter Tryz.func7,Tryz.ntmps7
 go_wp2_with (first
  | (go_at_call 8;refine CF.out.mono ?_;rintro e w1 ⟨rfl,hb1⟩;have HB1:=jH (below1 hb1);clear hb1)
  | (go_at_call 9;refine (CA.out _).mono ?_;rintro e w7 ⟨rfl,hb7⟩;have HB7:=jH hb7;clear hb7))
 go_ret
 exact ⟨rfl,jB HB1.out HB7.out⟩
theorem shapes_un {w:World} {a ua:Option Addr} {n cap un ucap:Nat} {mn:Int} (fn q er:Int) (hF:∀ W,Below w.heap.size w W→Calls Tryz.prog 8 #[uV a n cap ua un ucap mn] W fun e w'=>e=.returned (.bool true)∧Below W.heap.size W w')
  (hA:∀ W,Below w.heap.size w W→Calls Tryz.prog 35 #[uV a n cap ua un ucap mn,.int .i64 fn,.int .i64 q] W fun e w'=>e=.returned (.tuple #[plV 0 none 0 0,.bool false,.int .i64 er])∧Below W.heap.size W w') (he:er=2∨er=0):Calls Tryz.prog 7 #[uV a n cap ua un ucap mn,.int .i64 fn,.int .i64 q] w fun e w'=>e=.returned (.bool true)∧Below w.heap.size w w':=by
 have CA:Hid (∀ W,Calls Tryz.prog 9 #[] W fun e w'=>e=.returned (.bool true)∧Below W.heap.size W w'):=awake_true
 obtain ⟨V,hV⟩:∃ V,V=w.alloc (uO a n cap ua un ucap mn):=⟨_,rfl⟩
 have hB:Below w.heap.size w V:=by rw [hV];exact belA bR
 have A2:Hid (At V w.heap.size (uO a n cap ua un ucap mn)):=jH (by rw [hV];exact At.new _ _)
 have CF:=jH (hF V hB)
 have CAS:=jH hA
 have HB:=jH hB
 clear hF hA hB
 rcases he with rfl|rfl
 all_goals
  go_enter Tryz.func7,Tryz.ntmps7
  go_upto_region 1 with fail
  rw [← hV]
  clear hV
  obtain ⟨u0,u1,u2⟩:=A2.out.un
  go_wp2_with (first
   | (go_at_call 8;refine CF.out.mono ?_;rintro e w1 ⟨rfl,hb1⟩;have A3:=jH (A2.out.below hb1);have HB1:=jH (jB HB.out hb1);clear hb1 u0 u1 u2;obtain ⟨u0,u1,u2⟩:=A3.out.un)
   | (go_at_call 35;refine (CAS.out _ HB1.out).mono ?_;rintro e w2 ⟨rfl,hb2⟩;have HB2:=jH (jB HB1.out hb2);clear hb2 u0 u1 u2)
   | (go_at_call 9;refine (CA.out _).mono ?_;rintro e w7 ⟨rfl,hb7⟩;have HB7:=jH hb7;clear hb7))
  go_ret
  exact ⟨rfl,jB (belA HB2.out) HB7.out⟩
theorem shapes_five {w:World} {a ua:Option Addr} {n cap un ucap:Nat} {mn:Int} (fn q:Int) (hF:∀ W,Below w.heap.size w W→Calls Tryz.prog 8 #[uV a n cap ua un ucap mn] W fun e w'=>e=.returned (.bool true)∧Below W.heap.size W w') {tl:Int} {tn:Nat} {pp:List Int}
  (hA:∀ W,Below w.heap.size w W→Calls Tryz.prog 35 #[uV a n cap ua un ucap mn,.int .i64 fn,.int .i64 q] W fun e w'=>∃ (a':Option Addr) (cap':Nat),e=.returned (.tuple #[plV tl a' tn cap',.bool true,.int .i64 0])∧PAt w' ⟨tl,a',tn,cap'⟩ pp∧Below W.heap.size W w')
  (hP:∀ W (xa:Option Addr) (xc:Nat),Below w.heap.size w W→PAt W ⟨tl,xa,tn,xc⟩ pp→Calls Tryz.prog 17 #[uV a n cap ua un ucap mn,.int .i64 fn,plV tl xa tn xc] W fun e w'=>e=.returned (.tuple #[zT.v,.int .i64 5])∧Below W.heap.size W w'):Calls Tryz.prog 7 #[uV a n cap ua un ucap mn,.int .i64 fn,.int .i64 q] w fun e w'=>e=.returned (.bool true)∧Below w.heap.size w w':=by
 have CA:Hid (∀ W,Calls Tryz.prog 9 #[] W fun e w'=>e=.returned (.bool true)∧Below W.heap.size W w'):=awake_true
 obtain ⟨V,hV⟩:∃ V,V=w.alloc (uO a n cap ua un ucap mn):=⟨_,rfl⟩
 have hB:Below w.heap.size w V:=by rw [hV];exact belA bR
 have A2:Hid (At V w.heap.size (uO a n cap ua un ucap mn)):=jH (by rw [hV];exact At.new _ _)
 have CF:=jH (hF V hB)
 have CAS:=jH hA
 have CP:=jH hP
 have HB:=jH hB
 clear hF hA hB hP
 go_enter Tryz.func7,Tryz.ntmps7
 go_upto_region 1 with fail
 rw [← hV]
 clear hV
 obtain ⟨u0,u1,u2⟩:=A2.out.un
 go_wp2_with (first
  | (go_at_call 8;refine CF.out.mono ?_;rintro e w1 ⟨rfl,hb1⟩;have A3:=jH (A2.out.below hb1);have HB1:=jH (jB HB.out hb1);clear hb1 u0 u1 u2;obtain ⟨u0,u1,u2⟩:=A3.out.un)
  | (go_at_call 35;refine (CAS.out _ HB1.out).mono ?_;rintro e w2 ⟨xa,xc,rfl,hp2,hb2⟩;have HP2:=jH (hp2.bel (belA bR (o:=plO tl xa tn xc)));have A4:=jH ((A3.out.below hb2).below (belA bR (o:=plO tl xa tn xc)));have HB2:=jH (belA (jB HB1.out hb2) (o:=plO tl xa tn xc));clear hp2 hb2 u0 u1 u2;obtain ⟨u0,u1,u2⟩:=A4.out.un)
  | (go_at_call 17;refine (CP.out _ xa xc HB2.out HP2.out).mono ?_;rintro e w3 ⟨rfl,hb3⟩;have HB3:=jH (jB HB2.out hb3);clear hb3 u0 u1 u2)
  | (go_at_call 9;refine (CA.out _).mono ?_;rintro e w7 ⟨rfl,hb7⟩;have HB7:=jH hb7;clear hb7))
 go_ret
 exact ⟨rfl,jB (belA HB3.out) HB7.out⟩
theorem Alike_true (c d:Ch) (f f':Fv) (w:World) (h:TyAt w f c.ty) (h':TyAt w f' d.ty) (hc:Ok c) (hd:Ok d) (he:alikeB c d=true):Calls Tryz.prog 34 #[f.v,f'.v] w fun e w'=>e=.returned (.bool true)∧Below w.heap.size w w':=by
 have:=Alike_yes c d f f' w h h' hc hd
 rw [he] at this
 exact this
theorem shapes_none {w:World} {a ua:Option Addr} {n cap un ucap:Nat} {mn:Int} (fn q:Int) (hF:∀ W,Below w.heap.size w W→Calls Tryz.prog 8 #[uV a n cap ua un ucap mn] W fun e w'=>e=.returned (.bool true)∧Below W.heap.size W w') {tl:Int} {tn:Nat} {pp:List Int}
  (hA:∀ W,Below w.heap.size w W→Calls Tryz.prog 35 #[uV a n cap ua un ucap mn,.int .i64 fn,.int .i64 q] W fun e w'=>∃ (a':Option Addr) (cap':Nat),e=.returned (.tuple #[plV tl a' tn cap',.bool true,.int .i64 0])∧PAt w' ⟨tl,a',tn,cap'⟩ pp∧Below W.heap.size W w')
  {t o x:Ch} (ht:Ok t) (htr:t.rg) (hoo:Ok o) (hor:o.rg) (hx:Ok x) (hxr:x.rg) (hto:alikeB t o=true) (hxt:alikeB x t=true)
  (hP:∀ W (xa:Option Addr) (xc:Nat),Below w.heap.size w W→PAt W ⟨tl,xa,tn,xc⟩ pp→Calls Tryz.prog 17 #[uV a n cap ua un ucap mn,.int .i64 fn,plV tl xa tn xc] W fun e w'=>∃ f':Fv,e=.returned (.tuple #[f'.v,.int .i64 0])∧New W w' f' t)
  (hE:∀ W (f:Fv),TyAt W f t.ty→Calls Tryz.prog 29 #[f.v] W fun e w'=>∃ f':Fv,e=.returned (.tuple #[f'.v,.int .i64 0])∧New W w' f' x)
  (hG:∀ W (xa:Option Addr) (xc:Nat),Below w.heap.size w W→PAt W ⟨tl,xa,tn,xc⟩ pp→Calls Tryz.prog 36 #[uV a n cap ua un ucap mn,.int .i64 fn,plV tl xa tn xc] W fun e w'=>∃ f':Fv,e=.returned (.tuple #[f'.v,.int .i64 0])∧New W w' f' o)
  (hBo:∀ W,Below w.heap.size w W→Calls Tryz.prog 22 #[uV a n cap ua un ucap mn,.int .i64 fn,.int .i64 q] W fun e w'=>e=.returned (.tuple #[zT.v,.int .i64 130])∧Below W.heap.size W w')
  (hCa:∀ W,Below w.heap.size w W→Calls Tryz.prog 23 #[uV a n cap ua un ucap mn,.int .i64 fn,.int .i64 q] W fun e w'=>e=.returned (.tuple #[.slice none 0 0,zT.v,.int .i64 130])∧Below W.heap.size W w'):Calls Tryz.prog 7 #[uV a n cap ua un ucap mn,.int .i64 fn,.int .i64 q] w fun e w'=>e=.returned (.bool true)∧Below w.heap.size w w':=by
 have CA:Hid (∀ W,Calls Tryz.prog 9 #[] W fun e w'=>e=.returned (.bool true)∧Below W.heap.size W w'):=awake_true
 obtain ⟨V,hV⟩:∃ V,V=w.alloc (uO a n cap ua un ucap mn):=⟨_,rfl⟩
 have hB:Below w.heap.size w V:=by rw [hV];exact belA bR
 have A2:Hid (At V w.heap.size (uO a n cap ua un ucap mn)):=jH (by rw [hV];exact At.new _ _)
 have CF:=jH (hF V hB)
 have CAS:=jH hA
 have CP:=jH hP
 have CE:=jH hE
 have CG:=jH hG
 have HTO:=jH hto
 have HXT:=jH hxt
 have HT:=jH (And.intro ht htr)
 have HO:=jH (And.intro hoo hor)
 have HX:=jH (And.intro hx hxr)
 have HB:=jH hB
 have CB:=jH hBo
 have CC:=jH hCa
 clear hF hA hB hP hE hG hto hxt ht htr hoo hor hx hxr hBo hCa
 go_enter Tryz.func7,Tryz.ntmps7
 go_upto_region 1 with fail
 rw [← hV]
 clear hV
 obtain ⟨u0,u1,u2⟩:=A2.out.un
 go_wp2_with (first
  | (go_at_call 8;refine CF.out.mono ?_;rintro e w1 ⟨rfl,hb1⟩;have A3:=jH (A2.out.below hb1);have HB1:=jH (jB HB.out hb1);clear hb1 u0 u1 u2;obtain ⟨u0,u1,u2⟩:=A3.out.un)
  | (go_at_call 35;refine (CAS.out _ HB1.out).mono ?_;rintro e w2 ⟨xa,xc,rfl,hp2,hb2⟩;have P4:=jH (hp2.bel (belA bR (o:=plO tl xa tn xc)));have A4:=jH ((A3.out.below hb2).below (belA bR (o:=plO tl xa tn xc)));have L4:=jH (At.new w2 (plO tl xa tn xc));have HB4:=jH (belA (jB HB1.out hb2) (o:=plO tl xa tn xc));clear hp2 hb2 u0 u1 u2;obtain ⟨u0,u1,u2⟩:=A4.out.un)
  | (go_at_call 17;refine (CP.out _ xa xc HB4.out P4.out).mono ?_;rintro e w3 ⟨⟨k1,m1,r1,s1,a1,n1,c1⟩,rfl,hN⟩;have hh:=jB hN.bel (belA bR (o:=tyO k1 m1 r1 s1 a1 n1 c1));have P5:=jH (P4.out.bel hh);have A5:=jH (A4.out.below hh);have L5:=jH (L4.out.below hh);have T5:=jH (At.new w3 (Fv.o ⟨k1,m1,r1,s1,a1,n1,c1⟩));have Y5:=jH ((hN.own.ty HT.out.2).bel (belA bR (o:=tyO k1 m1 r1 s1 a1 n1 c1)));have HB5:=jH (jB HB4.out hh);clear hN hh u0 u1 u2;obtain ⟨u0,u1,u2⟩:=A5.out.un;obtain ⟨l0,l1⟩:=L5.out.pl)
  | (go_at_call 29;refine (CE.out _ ⟨k1,m1,r1,s1,a1,n1,c1⟩ Y5.out).mono ?_;rintro e w4 ⟨⟨k2,m2,r2,s2,a2,n2,c2⟩,rfl,hN⟩;have hh:=jB hN.bel (belA bR (o:=tyO k2 m2 r2 s2 a2 n2 c2));have P6:=jH (P5.out.bel hh);have A6:=jH (A5.out.below hh);have L6:=jH (L5.out.below hh);have T6:=jH (T5.out.below hh);have Y6:=jH (Y5.out.bel hh);have X6:=jH (At.new w4 (Fv.o ⟨k2,m2,r2,s2,a2,n2,c2⟩));have Z6:=jH ((hN.own.ty HX.out.2).bel (belA bR (o:=tyO k2 m2 r2 s2 a2 n2 c2)));have HB6:=jH (jB HB5.out hh);clear hN hh u0 u1 u2 l0 l1;obtain ⟨u0,u1,u2⟩:=A6.out.un;obtain ⟨l0,l1⟩:=L6.out.pl)
  | (go_at_call 36;refine (CG.out _ xa xc HB6.out P6.out).mono ?_;rintro e w5 ⟨⟨k3,m3,r3,s3,a3,n3,c3⟩,rfl,hN⟩;have hh:=jB hN.bel (belA bR (o:=tyO k3 m3 r3 s3 a3 n3 c3));have P7:=jH (P6.out.bel hh);have A7:=jH (A6.out.below hh);have T7:=jH (T6.out.below hh);have X7:=jH (X6.out.below hh);have Y7:=jH (Y6.out.bel hh);have Z7:=jH (Z6.out.bel hh);have O7:=jH ((hN.own.ty HO.out.2).bel (belA bR (o:=tyO k3 m3 r3 s3 a3 n3 c3)));have HB7:=jH (jB HB6.out hh);clear hN hh u0 u1 u2 l0 l1;obtain ⟨u0,u1,u2⟩:=A7.out.un;obtain ⟨tl7,t0,t1,t2,t3,t4⟩:=T7.out.ty;obtain ⟨xl7,x0,x1,x2,x3,x4⟩:=X7.out.ty;simp only [Nat.zero_add] at t0 t1 t2 t3 t4 x0 x1 x2 x3 x4)
  | (go_at_call 34;(with_reducible refine (Alike_true t o ⟨k1,m1,r1,s1,a1,n1,c1⟩ ⟨k3,m3,r3,s3,a3,n3,c3⟩ _ Y7.out O7.out HT.out.1 HO.out.1 HTO.out).mono ?_);rintro e w6 ⟨rfl,hh⟩;have A8:=jH (A7.out.below hh);have T8:=jH (T7.out.below hh);have X8:=jH (X7.out.below hh);have Y8:=jH (Y7.out.bel hh);have Z8:=jH (Z7.out.bel hh);have HB8:=jH (jB HB7.out hh);clear hh u0 u1 u2 tl7 t0 t1 t2 t3 t4 xl7 x0 x1 x2 x3 x4;obtain ⟨u0,u1,u2⟩:=A8.out.un;obtain ⟨tl7,t0,t1,t2,t3,t4⟩:=T8.out.ty;obtain ⟨xl7,x0,x1,x2,x3,x4⟩:=X8.out.ty;simp only [Nat.zero_add] at t0 t1 t2 t3 t4 x0 x1 x2 x3 x4)
  | (go_at_call 34;(with_reducible refine (Alike_true x t ⟨k2,m2,r2,s2,a2,n2,c2⟩ ⟨k1,m1,r1,s1,a1,n1,c1⟩ _ Z8.out Y8.out HX.out.1 HT.out.1 HXT.out).mono ?_);rintro e w7 ⟨rfl,hh⟩;have A9:=jH (A8.out.below hh);have T9:=jH (T8.out.below hh);have Y9:=jH (Y8.out.bel hh);have HB9:=jH (jB HB8.out hh);clear hh u0 u1 u2 tl7 t0 t1 t2 t3 t4 xl7 x0 x1 x2 x3 x4;obtain ⟨u0,u1,u2⟩:=A9.out.un;obtain ⟨tl7,t0,t1,t2,t3,t4⟩:=T9.out.ty;simp only [Nat.zero_add] at t0 t1 t2 t3 t4)
  | (go_at_call 22;refine (CB.out _ HB9.out).mono ?_;rintro e w8 ⟨rfl,hb⟩;have hh:=jB hb (belA bR (o:=.cells #[.int .u8 0,.bool false,.int .i64 0,.int .i64 0,.slice none 0 0] 46 (0,0)));have A10:=jH (A9.out.below hh);have T10:=jH (T9.out.below hh);have Y10:=jH (Y9.out.bel hh);have HB10:=jH (jB HB9.out hh);clear hb hh u0 u1 u2 tl7 t0 t1 t2 t3 t4;obtain ⟨u0,u1,u2⟩:=A10.out.un)
  | (go_at_call 23;refine (CC.out _ HB10.out).mono ?_;rintro e w9 ⟨rfl,hb⟩;have HB11:=jH (belA (jB HB10.out hb) (o:=.cells #[.int .u8 0,.bool false,.int .i64 0,.int .i64 0,.slice none 0 0] 46 (0,0)));clear hb u0 u1 u2)
  | (go_at_call 9;refine (CA.out _).mono ?_;rintro e wz ⟨rfl,hbz⟩;have HBz:=jH hbz;clear hbz))
 go_ret
 exact ⟨rfl,jB HB11.out HBz.out⟩
theorem shapes_borrow {w:World} {a ua:Option Addr} {n cap un ucap:Nat} {mn:Int} (fn q:Int) (hF:∀ W,Below w.heap.size w W→Calls Tryz.prog 8 #[uV a n cap ua un ucap mn] W fun e w'=>e=.returned (.bool true)∧Below W.heap.size W w') {tl:Int} {tn:Nat} {pp:List Int}
  (hA:∀ W,Below w.heap.size w W→Calls Tryz.prog 35 #[uV a n cap ua un ucap mn,.int .i64 fn,.int .i64 q] W fun e w'=>∃ (a':Option Addr) (cap':Nat),e=.returned (.tuple #[plV tl a' tn cap',.bool true,.int .i64 0])∧PAt w' ⟨tl,a',tn,cap'⟩ pp∧Below W.heap.size W w')
  {t o x:Ch} (ht:Ok t) (htr:t.rg) (hoo:Ok o) (hor:o.rg) (hx:Ok x) (hxr:x.rg) (hto:alikeB t o=true) (hxt:alikeB x t=true)
  (hP:∀ W (xa:Option Addr) (xc:Nat),Below w.heap.size w W→PAt W ⟨tl,xa,tn,xc⟩ pp→Calls Tryz.prog 17 #[uV a n cap ua un ucap mn,.int .i64 fn,plV tl xa tn xc] W fun e w'=>∃ f':Fv,e=.returned (.tuple #[f'.v,.int .i64 0])∧New W w' f' t)
  (hE:∀ W (f:Fv),TyAt W f t.ty→Calls Tryz.prog 29 #[f.v] W fun e w'=>∃ f':Fv,e=.returned (.tuple #[f'.v,.int .i64 0])∧New W w' f' x)
  (hG:∀ W (xa:Option Addr) (xc:Nat),Below w.heap.size w W→PAt W ⟨tl,xa,tn,xc⟩ pp→Calls Tryz.prog 36 #[uV a n cap ua un ucap mn,.int .i64 fn,plV tl xa tn xc] W fun e w'=>∃ f':Fv,e=.returned (.tuple #[f'.v,.int .i64 0])∧New W w' f' o)
  {bb:Ch} (hbb:Ok bb) (hbr:bb.rg) (hba:alikeB bb t=true) (hBo:∀ W,Below w.heap.size w W→Calls Tryz.prog 22 #[uV a n cap ua un ucap mn,.int .i64 fn,.int .i64 q] W fun e w'=>∃ f':Fv,e=.returned (.tuple #[f'.v,.int .i64 0])∧New W w' f' bb)
  (hCa:∀ W,Below w.heap.size w W→Calls Tryz.prog 23 #[uV a n cap ua un ucap mn,.int .i64 fn,.int .i64 q] W fun e w'=>e=.returned (.tuple #[.slice none 0 0,zT.v,.int .i64 130])∧Below W.heap.size W w'):Calls Tryz.prog 7 #[uV a n cap ua un ucap mn,.int .i64 fn,.int .i64 q] w fun e w'=>e=.returned (.bool true)∧Below w.heap.size w w':=by
 have CA:Hid (∀ W,Calls Tryz.prog 9 #[] W fun e w'=>e=.returned (.bool true)∧Below W.heap.size W w'):=awake_true
 obtain ⟨V,hV⟩:∃ V,V=w.alloc (uO a n cap ua un ucap mn):=⟨_,rfl⟩
 have hB:Below w.heap.size w V:=by rw [hV];exact belA bR
 have A2:Hid (At V w.heap.size (uO a n cap ua un ucap mn)):=jH (by rw [hV];exact At.new _ _)
 have CF:=jH (hF V hB)
 have CAS:=jH hA
 have CP:=jH hP
 have CE:=jH hE
 have CG:=jH hG
 have HTO:=jH hto
 have HXT:=jH hxt
 have HT:=jH (And.intro ht htr)
 have HO:=jH (And.intro hoo hor)
 have HX:=jH (And.intro hx hxr)
 have HB:=jH hB
 have CB:=jH hBo
 have CC:=jH hCa
 have HBO:=jH (And.intro hbb (And.intro hbr hba))
 clear hF hA hB hP hE hG hto hxt ht htr hoo hor hx hxr hBo hCa hbb hbr hba
 go_enter Tryz.func7,Tryz.ntmps7
 go_upto_region 1 with fail
 rw [← hV]
 clear hV
 obtain ⟨u0,u1,u2⟩:=A2.out.un
 go_wp2_with (first
  | (go_at_call 8;refine CF.out.mono ?_;rintro e w1 ⟨rfl,hb1⟩;have A3:=jH (A2.out.below hb1);have HB1:=jH (jB HB.out hb1);clear hb1 u0 u1 u2;obtain ⟨u0,u1,u2⟩:=A3.out.un)
  | (go_at_call 35;refine (CAS.out _ HB1.out).mono ?_;rintro e w2 ⟨xa,xc,rfl,hp2,hb2⟩;have P4:=jH (hp2.bel (belA bR (o:=plO tl xa tn xc)));have A4:=jH ((A3.out.below hb2).below (belA bR (o:=plO tl xa tn xc)));have L4:=jH (At.new w2 (plO tl xa tn xc));have HB4:=jH (belA (jB HB1.out hb2) (o:=plO tl xa tn xc));clear hp2 hb2 u0 u1 u2;obtain ⟨u0,u1,u2⟩:=A4.out.un)
  | (go_at_call 17;refine (CP.out _ xa xc HB4.out P4.out).mono ?_;rintro e w3 ⟨⟨k1,m1,r1,s1,a1,n1,c1⟩,rfl,hN⟩;have hh:=jB hN.bel (belA bR (o:=tyO k1 m1 r1 s1 a1 n1 c1));have P5:=jH (P4.out.bel hh);have A5:=jH (A4.out.below hh);have L5:=jH (L4.out.below hh);have T5:=jH (At.new w3 (Fv.o ⟨k1,m1,r1,s1,a1,n1,c1⟩));have Y5:=jH ((hN.own.ty HT.out.2).bel (belA bR (o:=tyO k1 m1 r1 s1 a1 n1 c1)));have HB5:=jH (jB HB4.out hh);clear hN hh u0 u1 u2;obtain ⟨u0,u1,u2⟩:=A5.out.un;obtain ⟨l0,l1⟩:=L5.out.pl)
  | (go_at_call 29;refine (CE.out _ ⟨k1,m1,r1,s1,a1,n1,c1⟩ Y5.out).mono ?_;rintro e w4 ⟨⟨k2,m2,r2,s2,a2,n2,c2⟩,rfl,hN⟩;have hh:=jB hN.bel (belA bR (o:=tyO k2 m2 r2 s2 a2 n2 c2));have P6:=jH (P5.out.bel hh);have A6:=jH (A5.out.below hh);have L6:=jH (L5.out.below hh);have T6:=jH (T5.out.below hh);have Y6:=jH (Y5.out.bel hh);have X6:=jH (At.new w4 (Fv.o ⟨k2,m2,r2,s2,a2,n2,c2⟩));have Z6:=jH ((hN.own.ty HX.out.2).bel (belA bR (o:=tyO k2 m2 r2 s2 a2 n2 c2)));have HB6:=jH (jB HB5.out hh);clear hN hh u0 u1 u2 l0 l1;obtain ⟨u0,u1,u2⟩:=A6.out.un;obtain ⟨l0,l1⟩:=L6.out.pl)
  | (go_at_call 36;refine (CG.out _ xa xc HB6.out P6.out).mono ?_;rintro e w5 ⟨⟨k3,m3,r3,s3,a3,n3,c3⟩,rfl,hN⟩;have hh:=jB hN.bel (belA bR (o:=tyO k3 m3 r3 s3 a3 n3 c3));have P7:=jH (P6.out.bel hh);have A7:=jH (A6.out.below hh);have T7:=jH (T6.out.below hh);have X7:=jH (X6.out.below hh);have Y7:=jH (Y6.out.bel hh);have Z7:=jH (Z6.out.bel hh);have O7:=jH ((hN.own.ty HO.out.2).bel (belA bR (o:=tyO k3 m3 r3 s3 a3 n3 c3)));have HB7:=jH (jB HB6.out hh);clear hN hh u0 u1 u2 l0 l1;obtain ⟨u0,u1,u2⟩:=A7.out.un;obtain ⟨tl7,t0,t1,t2,t3,t4⟩:=T7.out.ty;obtain ⟨xl7,x0,x1,x2,x3,x4⟩:=X7.out.ty;simp only [Nat.zero_add] at t0 t1 t2 t3 t4 x0 x1 x2 x3 x4)
  | (go_at_call 34;(with_reducible refine (Alike_true t o ⟨k1,m1,r1,s1,a1,n1,c1⟩ ⟨k3,m3,r3,s3,a3,n3,c3⟩ _ Y7.out O7.out HT.out.1 HO.out.1 HTO.out).mono ?_);rintro e w6 ⟨rfl,hh⟩;have A8:=jH (A7.out.below hh);have T8:=jH (T7.out.below hh);have X8:=jH (X7.out.below hh);have Y8:=jH (Y7.out.bel hh);have Z8:=jH (Z7.out.bel hh);have HB8:=jH (jB HB7.out hh);clear hh u0 u1 u2 tl7 t0 t1 t2 t3 t4 xl7 x0 x1 x2 x3 x4;obtain ⟨u0,u1,u2⟩:=A8.out.un;obtain ⟨tl7,t0,t1,t2,t3,t4⟩:=T8.out.ty;obtain ⟨xl7,x0,x1,x2,x3,x4⟩:=X8.out.ty;simp only [Nat.zero_add] at t0 t1 t2 t3 t4 x0 x1 x2 x3 x4)
  | (go_at_call 34;(with_reducible refine (Alike_true x t ⟨k2,m2,r2,s2,a2,n2,c2⟩ ⟨k1,m1,r1,s1,a1,n1,c1⟩ _ Z8.out Y8.out HX.out.1 HT.out.1 HXT.out).mono ?_);rintro e w7 ⟨rfl,hh⟩;have A9:=jH (A8.out.below hh);have T9:=jH (T8.out.below hh);have Y9:=jH (Y8.out.bel hh);have HB9:=jH (jB HB8.out hh);clear hh u0 u1 u2 tl7 t0 t1 t2 t3 t4 xl7 x0 x1 x2 x3 x4;obtain ⟨u0,u1,u2⟩:=A9.out.un;obtain ⟨tl7,t0,t1,t2,t3,t4⟩:=T9.out.ty;simp only [Nat.zero_add] at t0 t1 t2 t3 t4)
  | (go_at_call 22;refine (CB.out _ HB9.out).mono ?_;rintro e w8 ⟨⟨k4,m4,r4,s4,a4,n4,c4⟩,rfl,hN⟩;have hh:=jB hN.bel (belA bR (o:=tyO k4 m4 r4 s4 a4 n4 c4));have A10':=jH (A9.out.below hh);have T10':=jH (T9.out.below hh);have Y10':=jH (Y9.out.bel hh);have B10':=jH ((hN.own.ty HBO.out.2.1).bel (belA bR (o:=tyO k4 m4 r4 s4 a4 n4 c4)));have HB10':=jH (jB HB9.out hh);clear hN hh u0 u1 u2 tl7 t0 t1 t2 t3 t4;obtain ⟨u0,u1,u2⟩:=A10'.out.un;obtain ⟨tl7,t0,t1,t2,t3,t4⟩:=T10'.out.ty;simp only [Nat.zero_add] at t0 t1 t2 t3 t4)
  | (go_at_call 34;(with_reducible refine (Alike_true bb t ⟨k4,m4,r4,s4,a4,n4,c4⟩ ⟨k1,m1,r1,s1,a1,n1,c1⟩ _ B10'.out Y10'.out HBO.out.1 HT.out.1 HBO.out.2.2).mono ?_);rintro e w8' ⟨rfl,hh⟩;have A10:=jH (A10'.out.below hh);have HB10:=jH (jB HB10'.out hh);clear hh u0 u1 u2 tl7 t0 t1 t2 t3 t4;obtain ⟨u0,u1,u2⟩:=A10.out.un)
  | (go_at_call 23;refine (CC.out _ HB10.out).mono ?_;rintro e w9 ⟨rfl,hb⟩;have HB11:=jH (belA (jB HB10.out hb) (o:=.cells #[.int .u8 0,.bool false,.int .i64 0,.int .i64 0,.slice none 0 0] 46 (0,0)));clear hb u0 u1 u2)
  | (go_at_call 9;refine (CA.out _).mono ?_;rintro e wz ⟨rfl,hbz⟩;have HBz:=jH hbz;clear hbz))
 go_ret
 exact ⟨rfl,jB HB11.out HBz.out⟩
end Go.Proofs.YtdlggpcakaofoaaGreat
