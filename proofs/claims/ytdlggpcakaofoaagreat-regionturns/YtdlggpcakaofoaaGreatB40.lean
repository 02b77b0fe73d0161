/-
  RegionTurns returns true for every type and every list of numbers, and leaves them as they were: the row of 'loanwordlaw13.RegionTurns'. No condition beyond the statement's own.
-/
import Derived.Test.YtdlggpcakaofoaaGreatB39
import Derived.ProofKit
import Derived.ChangeSlices
import Derived.OpenShut
import Derived.ShutString
import Derived.ChangeOld
import Derived.ChangeMaps5
import Derived.Stop.Joined
import Derived.HandedShaped
import Derived.Lay
import Derived.MakeChecks
namespace Go.Proofs.YtdlggpcakaofoaaGreat
open Go.RowKit Go.Shelf Go.ChangeShapes Go.WideShapes Go.ChangeAt Go.Joins
set_option linter.unusedVariables false
set_option linter.unusedSimpArgs false
set_option maxRecDepth 100000
set_option maxHeartbeats 16000000
theorem Width_any (w:World) (lv np cn:Int) (vL vA:Value) (h:IntKind.i64.wrap (np+lv)=np+lv):Calls Tryz.prog 14 #[rgV lv np cn vL vA] w fun e w'=>e=.returned (.int .i64 (np+lv))∧Below w.heap.size w w':=by
 have A:=jH (At.new w (rgO lv np cn vL vA))
 obtain ⟨d0,d1,d2,d3,d4⟩:=A.out.rg
 have hB:Hid (Below w.heap.size w (w.alloc (rgO lv np cn vL vA))):=jH (belA bR)
 obtain ⟨V,hV⟩:∃ V,V=w.alloc (rgO lv np cn vL vA):=⟨_,rfl⟩
 rw [← hV] at d0 d1 d2 d3 d4 hB
 clear A
 go_enter Tryz.func14,Tryz.ntmps14
 go_upto_region 1 with fail
 rw [← hV]
 clear hV
 go_wp2_with fail
 go_ret
 exact ⟨rfl,hB.out⟩
theorem own_ref {w:World} {lo hi:Nat} {f:Fv} {m:Bool} {r:Int} {c:Ch} (h:OwnL w lo hi f (.ref m r c)):∃ g,f=⟨4,m,r,0,some ⟨g,0,none⟩,1,1⟩:=by
 cases h with
 | ref _ _ g f c hg hh hA hc=>exact ⟨g,rfl⟩
theorem rowc {W W':World} {g o:Nat} {v:Value} (h:W.cell? ⟨g,o,none⟩=some v∧g<W.heap.size) (k:Below W.heap.size W W'):W'.cell? ⟨g,o,none⟩=some v∧g<W'.heap.size:=⟨(k.cell (p:=⟨g,o,none⟩) h.2).trans h.1,Nat.lt_of_lt_of_le h.2 k.size⟩
theorem hand_cnt:cntP [hG] (cntL hG.lv hcl) hG.pt=2:=rfl
theorem hand_at:atR [hG] (cntL hG.lv hcl) hG.pt=[1,-1,-1,-1]:=rfl
theorem hand_num:numR hG.lv hcl=[.leaf 1 0,.leaf 1 0,.ref true 0 (.leaf 1 0)]:=rfl
theorem leaf_ok:Ok (.leaf 1 0):=⟨.inl ⟨.inl rfl,rfl⟩,by decide⟩
theorem ref_ok (r:Int) (h:-1≤r):Ok (.ref true r (.leaf 1 0)):=⟨⟨h,.inl ⟨.inl rfl,rfl⟩⟩,by simp [Ch.depth]⟩
theorem leaf_rg:(Ch.leaf 1 0).rg:=⟨by omega,by omega,by omega⟩
theorem awake_true (w:World):Calls Tryz.prog 9 #[] w fun e w'=>e=.returned (.bool true)∧Below w.heap.size w w':=by
 have CH:=jH (hand_any w)
 have COf:Hid (∀ (W:World) (bu bl br bn bp bq:Nat),HandAt W bu bl br bn bp bq→Calls Tryz.prog 11 #[uV none 0 0 (some ⟨bu,0,none⟩) 1 1 0,.int .i64 0] W fun e w'=>∃ aL cL aA cA,e=.returned (.tuple #[rgV 0 4 2 (.slice aL 3 cL) (.slice aA 4 cA),.int .i64 0])∧w'.ownsRow W.heap.size 3 1 (.slice aA 4 cA) 4 (iCells [1,-1,-1,-1])∧Below W.heap.size W w'):=jH fun W bu bl br bn bp bq h=>(Of_yes (hand_ug h) (by rw [hand_cnt];omega)).mono fun e w' k=>by
  obtain ⟨aL,cL,aA,cA,h1,h2,h3⟩:=k
  have h4:=h2.ats
  rw [hand_at] at h4
  exact ⟨aL,cL,aA,cA,h1,h4,h3⟩
 have CB:Hid (∀ (W:World) (bu bl br bn bp bq:Nat),HandAt W bu bl br bn bp bq→Calls Tryz.prog 22 #[uV none 0 0 (some ⟨bu,0,none⟩) 1 1 0,.int .i64 0,.int .i64 0] W fun e w'=>∃ g,e=.returned (.tuple #[tyV 4 true 1 0 (some ⟨g,0,none⟩) 1 1,.int .i64 0])∧TyAt w' ⟨4,true,1,0,some ⟨g,0,none⟩,1,1⟩ (Ch.ref true 1 (.leaf 1 0)).ty∧Below W.heap.size W w'):=jH fun W bu bl br bn bp bq h=>(Borrowed_nil (q:=0) (l:=1) (p:=hp0) (c:=.leaf 1 0) (x:=1) (hand_ug h) (by rw [hand_cnt];omega) rfl rfl rfl rfl (by rw [hand_num];rfl) leaf_ok leaf_rg (by rw [hand_at];rfl)).mono fun e w' k=>by
  obtain ⟨f,h1,h2⟩:=k
  obtain ⟨g,rfl⟩:=own_ref h2.own
  exact ⟨g,h1,h2.own.ty ⟨⟨by omega,by omega⟩,leaf_rg⟩,h2.bel⟩
 have CC:Hid (∀ (W:World) (bu bl br bn bp bq:Nat),HandAt W bu bl br bn bp bq→Calls Tryz.prog 23 #[uV none 0 0 (some ⟨bu,0,none⟩) 1 1 0,.int .i64 0,.int .i64 0] W fun e w'=>e=.returned (.tuple #[.slice none 0 0,zT.v,.int .i64 130])∧Below W.heap.size W w'):=jH fun W bu bl br bn bp bq h=>Called_no (q:=0) (p:=hp0) (hand_ug h) (by rw [hand_cnt];omega) rfl (by decide)
 have CT:Hid (∀ (W:World) (g bs:Nat),TyAt W ⟨4,true,1,0,some ⟨g,0,none⟩,1,1⟩ (Ch.ref true 1 (.leaf 1 0)).ty→At W bs (.cells #[.int .i64 5,.int .i64 7] 3)→Calls Tryz.prog 27 #[tyV 4 true 1 0 (some ⟨g,0,none⟩) 1 1,.slice (some ⟨bs,0,none⟩) 2 2] W fun e w'=>∃ g2,e=.returned (.tuple #[tyV 4 true 7 0 (some ⟨g2,0,none⟩) 1 1,.int .i64 0])∧Below W.heap.size W w'):=jH fun W g bs hT hA=>by
  have hI:IntR W (some ⟨bs,0,none⟩) 2 2 [5,7]:=⟨rfl,Nat.le_refl _,by unfold maxLen;omega,fun _=>⟨bs,0,rfl,hA.lt,fun i x hx=>by
   unfold At at hA
   match i,hx with
   | 0,hx=>simp at hx;subst hx;simp [World.cell?,hA]
   | 1,hx=>simp at hx;subst hx;simp [World.cell?,hA]
   | i+2,hx=>simp at hx⟩,fun x hx=>by simp at hx;omega,fun e=>by cases e⟩
  refine (Turn_yes (.ref true 1 (.leaf 1 0)) ⟨4,true,1,0,some ⟨g,0,none⟩,1,1⟩ (some ⟨bs,0,none⟩) 2 2 [5,7] W (ref_ok 1 (by omega)) hT hI (by decide)).mono fun e w' k=>?_
  obtain ⟨f,h1,h2⟩:=k
  have h3:New W w' f (.ref true 7 (.leaf 1 0)):=h2
  obtain ⟨g2,rfl⟩:=own_ref h3.own
  exact ⟨g2,h1,h3.bel⟩
 have CE:Hid (∀ (W:World) (g:Nat),TyAt W ⟨4,true,1,0,some ⟨g,0,none⟩,1,1⟩ (Ch.ref true 1 (.leaf 1 0)).ty→Calls Tryz.prog 29 #[tyV 4 true 1 0 (some ⟨g,0,none⟩) 1 1] W fun e w'=>∃ g2,e=.returned (.tuple #[tyV 4 true (-1) 0 (some ⟨g2,0,none⟩) 1 1,.int .i64 0])∧Below W.heap.size W w'):=jH fun W g hT=>(Erase_yes (.ref true 1 (.leaf 1 0)) ⟨4,true,1,0,some ⟨g,0,none⟩,1,1⟩ W (ref_ok 1 (by omega)) hT).mono fun e w' k=>by
  obtain ⟨f,h1,h2⟩:=k
  have h3:New W w' f (.ref true (-1) (.leaf 1 0)):=h2
  obtain ⟨g2,rfl⟩:=own_ref h3.own
  exact ⟨g2,h1,h3.bel⟩
 have CP:Hid (∀ (W:World) (bu bl br bn bp bq:Nat),HandAt W bu bl br bn bp bq→Calls Tryz.prog 17 #[uV none 0 0 (some ⟨bu,0,none⟩) 1 1 0,.int .i64 0,plV 2 none 0 0] W fun e w'=>∃ g,e=.returned (.tuple #[tyV 4 true 0 0 (some ⟨g,0,none⟩) 1 1,.int .i64 0])∧Below W.heap.size W w'):=jH fun W bu bl br bn bp bq h=>(Place_nil (l:=2) (c0:=.ref true (-1) (.leaf 1 0)) (c:=.ref true 0 (.leaf 1 0)) (hand_ug h) (fun V hV=>hand_cx V) (by rw [hand_cnt];omega) rfl (by rw [hand_num];rfl) (ref_ok 0 (by omega)) ⟨⟨by omega,by omega⟩,leaf_rg⟩ none 0 (Nat.zero_le _) (fun _=>rfl)).mono fun e w' k=>by
  obtain ⟨f,h1,h2⟩:=k
  obtain ⟨g2,rfl⟩:=own_ref h2.own
  exact ⟨g2,h1,h2.bel⟩
 go_enter Tryz.func9,Tryz.ntmps9
 go_upto_region 2 with (go_at_call 38;refine CH.out.mono ?_;rintro e w1 ⟨bu,bl,br,bn,bp,bq,rfl,hh,hb⟩;have HH0:=jH hh;have HB0:=jH hb;clear hh hb)
 have AU:=jH (At.new w1 (uO none 0 0 (some ⟨bu,0,none⟩) 1 1 0))
 have HH:=jH (HH0.out.bel (belA bR (o:=(uO none 0 0 (some ⟨bu,0,none⟩) 1 1 0))))
 have HB:=jH (belA HB0.out (o:=(uO none 0 0 (some ⟨bu,0,none⟩) 1 1 0)))
 change Code.wp _ _ _ _ (w1.alloc (uO none 0 0 (some ⟨bu,0,none⟩) 1 1 0))
 obtain ⟨b1,hb1⟩:∃ b1,b1=w1.heap.size:=⟨_,rfl⟩
 rw [← hb1] at AU ⊢
 generalize (w1.alloc (uO none 0 0 (some ⟨bu,0,none⟩) 1 1 0))=U1 at AU HH HB ⊢
 clear HH0 HB0 CH hb1
 obtain ⟨u0,u1,u2⟩:=AU.out.un
 go_upto_region 3 with (go_at_call 11;refine (COf.out U1 bu bl br bn bp bq HH.out).mono ?_;rintro e w2 ⟨aL,cL,aA,cA,rfl,hr,hb⟩;have HR:=jH hr;have HBk:=jH hb;clear hr hb u0 u1 u2)
 have HRr:Hid ((w2.alloc (rgO 0 4 2 (.slice aL 3 cL) (.slice aA 4 cA))).ownsRow U1.heap.size 3 1 (.slice aA 4 cA) 4 (iCells [1,-1,-1,-1])):=jH (own_bel HR.out (belA bR))
 have hbk:Below U1.heap.size U1 (w2.alloc (rgO 0 4 2 (.slice aL 3 cL) (.slice aA 4 cA))):=belA HBk.out
 have HHn:=jH (HH.out.bel hbk)
 have HBn:=jH (jB HB.out hbk)
 have AUn:=jH (AU.out.below hbk)
 have AR:Hid (At (w2.alloc (rgO 0 4 2 (.slice aL 3 cL) (.slice aA 4 cA))) w2.heap.size (rgO 0 4 2 (.slice aL 3 cL) (.slice aA 4 cA))):=jH (At.new _ _)
 change Code.wp _ _ _ _ (w2.alloc (rgO 0 4 2 (.slice aL 3 cL) (.slice aA 4 cA)))
 obtain ⟨b2,hb2⟩:∃ b2,b2=w2.heap.size:=⟨_,rfl⟩
 rw [← hb2] at AR ⊢
 generalize (w2.alloc (rgO 0 4 2 (.slice aL 3 cL) (.slice aA 4 cA)))=U2 at HRr HHn HBn AUn AR ⊢
 clear HH HB AU HBk hbk hb2
 have HH:=HHn
 clear HHn
 have HB:=HBn
 clear HBn
 have AU:=AUn
 clear AUn
 obtain ⟨gA,cA2,hvA⟩:=own_is HRr.out (by omega)
 have evA:aA=some ⟨gA,0,none⟩:=by have:=hvA;simp only [Value.slice.injEq] at this;exact this.1
 subst evA
 have R0:=jH (own_cell HRr.out (j:=0) (u:=.int .i64 1) rfl)
 have R1:=jH (own_cell HRr.out (j:=1) (u:=.int .i64 (-1)) rfl)
 clear hvA HRr HR
 obtain ⟨u0,u1,u2⟩:=AU.out.un
 go_upto_region 4 with (go_at_call 22;refine (CB.out U2 bu bl br bn bp bq HH.out).mono ?_;rintro e w3 ⟨g4,rfl,ht,hb⟩;have HT0:=jH ht;have HBk:=jH hb;clear ht hb u0 u1 u2)
 have hbk:Below U2.heap.size U2 (w3.alloc (tyO 4 true 1 0 (some ⟨g4,0,none⟩) 1 1)):=belA HBk.out
 have HHn:=jH (HH.out.bel hbk)
 have HBn:=jH (jB HB.out hbk)
 have AUn:=jH (AU.out.below hbk)
 have ARn:=jH (AR.out.below hbk)
 have R0n:=jH (rowc R0.out hbk)
 have R1n:=jH (rowc R1.out hbk)
 have AT:Hid (At (w3.alloc (tyO 4 true 1 0 (some ⟨g4,0,none⟩) 1 1)) w3.heap.size (tyO 4 true 1 0 (some ⟨g4,0,none⟩) 1 1)):=jH (At.new _ _)
 have HT:Hid (TyAt (w3.alloc (tyO 4 true 1 0 (some ⟨g4,0,none⟩) 1 1)) ⟨4,true,1,0,some ⟨g4,0,none⟩,1,1⟩ (Ch.ref true 1 (.leaf 1 0)).ty):=jH (HT0.out.bel (belA bR))
 change Code.wp _ _ _ _ (w3.alloc (tyO 4 true 1 0 (some ⟨g4,0,none⟩) 1 1))
 obtain ⟨b4,hb4⟩:∃ b4,b4=w3.heap.size:=⟨_,rfl⟩
 rw [← hb4] at AT ⊢
 generalize (w3.alloc (tyO 4 true 1 0 (some ⟨g4,0,none⟩) 1 1))=U3 at HT HHn HBn AUn ARn R0n R1n AT ⊢
 clear HT0 HH HB AU AR R0 R1 HBk hbk hb4
 have HH:=HHn
 clear HHn
 have HB:=HBn
 clear HBn
 have AU:=AUn
 clear AUn
 have AR:=ARn
 clear ARn
 have R0:=R0n
 clear R0n
 have R1:=R1n
 clear R1n
 obtain ⟨u0,u1,u2⟩:=AU.out.un
 go_upto_region 5 with (go_at_call 23;refine (CC.out U3 bu bl br bn bp bq HH.out).mono ?_;rintro e w4 ⟨rfl,hb⟩;have HBk:=jH hb;clear hb u0 u1 u2)
 have hbk:Below U3.heap.size U3 (w4.alloc zT.o):=belA HBk.out
 have HHn:=jH (HH.out.bel hbk)
 have HBn:=jH (jB HB.out hbk)
 have AUn:=jH (AU.out.below hbk)
 have ARn:=jH (AR.out.below hbk)
 have R0n:=jH (rowc R0.out hbk)
 have R1n:=jH (rowc R1.out hbk)
 have ATn:=jH (AT.out.below hbk)
 have HTn:=jH (HT.out.bel hbk)
 have A7:Hid (At (w4.alloc zT.o) w4.heap.size zT.o):=jH (At.new _ _)
 change Code.wp _ _ _ _ (w4.alloc zT.o)
 obtain ⟨b7,hb7⟩:∃ b7,b7=w4.heap.size:=⟨_,rfl⟩
 rw [← hb7] at A7 ⊢
 generalize (w4.alloc zT.o)=U4 at HHn HBn AUn ARn R0n R1n ATn HTn A7 ⊢
 clear HH HB AU AR R0 R1 AT HT HBk hbk hb7
 have HH:=HHn
 clear HHn
 have HB:=HBn
 clear HBn
 have AU:=AUn
 clear AUn
 have AR:=ARn
 clear ARn
 have R0:=R0n
 clear R0n
 have R1:=R1n
 clear R1n
 have AT:=ATn
 clear ATn
 have HT:=HTn
 clear HTn
 clear A7
 obtain ⟨hl4,p0,p1,p2,p3,p4⟩:=At.ty (f:=⟨4,true,1,0,some ⟨g4,0,none⟩,1,1⟩) AT.out
 simp only [Nat.zero_add] at p0 p1 p2 p3 p4
 have hbA:Below U4.heap.size U4 (U4.alloc (.cells #[.int .i64 5,.int .i64 7] 3)):=belA bR
 have CT2:=jH (CT.out (U4.alloc (.cells #[.int .i64 5,.int .i64 7] 3)) g4 U4.heap.size (HT.out.bel hbA) (At.new _ _))
 clear hbA
 go_upto_region 6 with (go_at_call 27;refine CT2.out.mono ?_;rintro e w5 ⟨g9,rfl,hb⟩;have HBk:=jH (below1 hb);clear hb p0 p1 p2 p3 p4 hl4)
 have hbk:Below U4.heap.size U4 (w5.alloc (tyO 4 true 7 0 (some ⟨g9,0,none⟩) 1 1)):=belA HBk.out
 have HHn:=jH (HH.out.bel hbk)
 have HBn:=jH (jB HB.out hbk)
 have AUn:=jH (AU.out.below hbk)
 have ARn:=jH (AR.out.below hbk)
 have R0n:=jH (rowc R0.out hbk)
 have R1n:=jH (rowc R1.out hbk)
 have ATn:=jH (AT.out.below hbk)
 have HTn:=jH (HT.out.bel hbk)
 have AX:Hid (At (w5.alloc (tyO 4 true 7 0 (some ⟨g9,0,none⟩) 1 1)) w5.heap.size (tyO 4 true 7 0 (some ⟨g9,0,none⟩) 1 1)):=jH (At.new _ _)
 change Code.wp _ _ _ _ (w5.alloc (tyO 4 true 7 0 (some ⟨g9,0,none⟩) 1 1))
 obtain ⟨b9,hb9⟩:∃ b9,b9=w5.heap.size:=⟨_,rfl⟩
 rw [← hb9] at AX ⊢
 generalize (w5.alloc (tyO 4 true 7 0 (some ⟨g9,0,none⟩) 1 1))=U5 at HHn HBn AUn ARn R0n R1n ATn HTn AX ⊢
 clear HH HB AU AR R0 R1 AT HT HBk hbk hb9
 have HH:=HHn
 clear HHn
 have HB:=HBn
 clear HBn
 have AU:=AUn
 clear AUn
 have AR:=ARn
 clear ARn
 have R0:=R0n
 clear R0n
 have R1:=R1n
 clear R1n
 have AT:=ATn
 clear ATn
 have HT:=HTn
 clear HTn
 clear CT2
 obtain ⟨hl4,p0,p1,p2,p3,p4⟩:=At.ty (f:=⟨4,true,1,0,some ⟨g4,0,none⟩,1,1⟩) AT.out
 simp only [Nat.zero_add] at p0 p1 p2 p3 p4
 go_upto_region 7 with (go_at_call 29;refine (CE.out U5 g4 HT.out).mono ?_;rintro e w6 ⟨g11,rfl,hb⟩;have HBk:=jH hb;clear hb p0 p1 p2 p3 p4 hl4)
 have hbk:Below U5.heap.size U5 (w6.alloc (tyO 4 true (-1) 0 (some ⟨g11,0,none⟩) 1 1)):=belA HBk.out
 have HHn:=jH (HH.out.bel hbk)
 have HBn:=jH (jB HB.out hbk)
 have AUn:=jH (AU.out.below hbk)
 have ARn:=jH (AR.out.below hbk)
 have R0n:=jH (rowc R0.out hbk)
 have R1n:=jH (rowc R1.out hbk)
 have ATn:=jH (AT.out.below hbk)
 have HTn:=jH (HT.out.bel hbk)
 have AXn:=jH (AX.out.below hbk)
 have AY:Hid (At (w6.alloc (tyO 4 true (-1) 0 (some ⟨g11,0,none⟩) 1 1)) w6.heap.size (tyO 4 true (-1) 0 (some ⟨g11,0,none⟩) 1 1)):=jH (At.new _ _)
 change Code.wp _ _ _ _ (w6.alloc (tyO 4 true (-1) 0 (some ⟨g11,0,none⟩) 1 1))
 obtain ⟨b11,hb11⟩:∃ b11,b11=w6.heap.size:=⟨_,rfl⟩
 rw [← hb11] at AY ⊢
 generalize (w6.alloc (tyO 4 true (-1) 0 (some ⟨g11,0,none⟩) 1 1))=U6 at HHn HBn AUn ARn R0n R1n ATn HTn AXn AY ⊢
 clear HH HB AU AR R0 R1 AT HT AX HBk hbk hb11
 have HH:=HHn
 clear HHn
 have HB:=HBn
 clear HBn
 have AU:=AUn
 clear AUn
 have AR:=ARn
 clear ARn
 have R0:=R0n
 clear R0n
 have R1:=R1n
 clear R1n
 have AT:=ATn
 clear ATn
 have HT:=HTn
 clear HTn
 have AX:=AXn
 clear AXn
 obtain ⟨u0,u1,u2⟩:=AU.out.un
 go_wp2_with (first
  | (go_at_call 17;refine (CP.out U6 bu bl br bn bp bq HH.out).mono ?_;rintro e w7 ⟨g13,rfl,hb⟩;have HBk:=jH hb;have AR7:=jH (AR.out.below hb);obtain ⟨d0,d1,d2,d3,d4⟩:=AR7.out.rg;have hl2:=AR7.out.lt;clear hb u0 u1 u2)
  | (go_at_call 14;refine (Width_any (w7.alloc (tyO 4 true 0 0 (some ⟨g13,0,none⟩) 1 1)) 0 4 2 _ _ (by decide)).mono ?_;rintro e w8 ⟨rfl,hb⟩;have HB8:=jH (belA HBk.out (o:=(tyO 4 true 0 0 (some ⟨g13,0,none⟩) 1 1)));have HBz:=jH (jB HB8.out hb);clear d0 d1 d2 d3 d4 hl2;obtain ⟨d0,d1,d2,d3,d4⟩:=(AR.out.below HBz.out).rg;have hl2:=(AR.out.below HBz.out).lt;obtain ⟨r0,hlA⟩:=rowc R0.out HBz.out;obtain ⟨r1,-⟩:=rowc R1.out HBz.out;obtain ⟨hl4,p0,p1,p2,p3,p4⟩:=At.ty (f:=⟨4,true,1,0,some ⟨g4,0,none⟩,1,1⟩) (AT.out.below HBz.out);obtain ⟨hl9,x0,x1,x2,x3,x4⟩:=At.ty (f:=⟨4,true,7,0,some ⟨g9,0,none⟩,1,1⟩) (AX.out.below HBz.out);obtain ⟨hl11,y0,y1,y2,y3,y4⟩:=At.ty (f:=⟨4,true,-1,0,some ⟨g11,0,none⟩,1,1⟩) (AY.out.below HBz.out);obtain ⟨hl13,z0,z1,z2,z3,z4⟩:=At.ty (f:=⟨4,true,0,0,some ⟨g13,0,none⟩,1,1⟩) ((At.new w7 (tyO 4 true 0 0 (some ⟨g13,0,none⟩) 1 1)).below hb);simp only [Nat.zero_add] at p0 p1 p2 p3 p4 x0 x1 x2 x3 x4 y0 y1 y2 y3 y4 z0 z1 z2 z3 z4;clear hb))
 go_ret
 exact ⟨rfl,jB HB.out HBz.out⟩
structure RowO (W:World) (go co n:Nat) (X:List Int):Prop where
 lt:go<W.heap.size
 cells:∀ i,i<n+1→W.cell? ⟨go,i,none⟩=(iCells (X++[77]))[i]?
 len:X.length=n
 cap:n+1≤co
 max:co≤maxLen
theorem RowO.below {W W':World} {go co n:Nat} {X:List Int} (h:RowO W go co n X) (k:Below W.heap.size W W'):RowO W' go co n X:=⟨Nat.lt_of_lt_of_le h.lt k.size,fun i hi=>(k.cell (p:=⟨go,i,none⟩) h.lt).trans (h.cells i hi),h.len,h.cap,h.max⟩
theorem RowO.drew {W:World} {go co n:Nat} {X:List Int} (h:RowO W go co n X):RowO W.drew go co n X:=h.below bR.drew
theorem RowO.but {W W':World} {go co n b:Nat} {X:List Int} (h:RowO W go co n X) (k:But b W W') (hn:go≠b):RowO W' go co n X:=⟨Nat.lt_of_lt_of_le h.lt k.size,fun i hi=>(World.cell?_of_block (a:=⟨go,i,none⟩) (k.block go h.lt (fun e=>hn (Option.some.inj e)))).trans (h.cells i hi),h.len,h.cap,h.max⟩
theorem RowO.out {W W':World} {go co n lo hi:Nat} {X:List Int} (h:RowO W go co n X) (k:Out lo hi W W') (hn:go<lo∨hi≤go):RowO W' go co n X:=⟨Nat.lt_of_lt_of_le h.lt k.bel.size,fun i hi=>(World.cell?_of_block (a:=⟨go,i,none⟩) (by rcases hn with h1|h1;exact k.bel.block go h1;exact k.hi go h1 h.lt)).trans (h.cells i hi),h.len,h.cap,h.max⟩
theorem RowO.int {W:World} {go co n:Nat} {X:List Int} (h:RowO W go co n X) (hr:∀ x∈X,-9223372036854775808≤x∧x≤9223372036854775807):IntR W (some ⟨go,0,none⟩) n co X :=
 ⟨h.len.symm,by have:=h.cap;omega,h.max,fun _=>⟨go,0,rfl,h.lt,fun i x hx=>by
  have hi:=(List.getElem?_eq_some_iff.1 hx).1
  have hl:=h.len
  rw [Nat.zero_add,h.cells i (by omega)]
  simp only [iCells,List.map_append];rw [List.getElem?_append_left (by simpa using hi)];simp [hx]⟩,hr,fun e=>by cases e⟩
theorem RowO.at {W:World} {go co n i:Nat} {X:List Int} {x:Int} (h:RowO W go co n X) (hx:X[i]?=some x):W.cell? ⟨go,i,none⟩=some (.int .i64 x):=by
 have hi:=(List.getElem?_eq_some_iff.1 hx).1
 have hl:=h.len
 rw [h.cells i (by omega)]
 simp only [iCells,List.map_append]
 rw [List.getElem?_append_left (by simpa using hi)]
 simp [hx]
theorem RowO.last {W:World} {go co n:Nat} {X:List Int} (h:RowO W go co n X):W.cell? ⟨go,n,none⟩=some (.int .i64 77):=by
 rw [h.cells n (by omega),← h.len]
 simp [iCells]
structure Vr (V W:World) (b:Nat) (f:Fv) (c:Ch) (lo hi:Nat):Prop where
 at_:At W b f.o
 own:OwnL W lo hi f c
 l0:V.heap.size≤lo
 le:lo≤hi
 h1:hi≤W.heap.size
 out:b<lo∨hi≤b
 b0:V.heap.size≤b
theorem Vr.bel {V W W':World} {b:Nat} {f:Fv} {c:Ch} {lo hi:Nat} (h:Vr V W b f c lo hi) (k:Below W.heap.size W W'):Vr V W' b f c lo hi:=⟨h.at_.below k,h.own.bel k,h.l0,h.le,Nat.le_trans h.h1 k.size,h.out,h.b0⟩
theorem own:ownKnob Tryz.prog.godebug=none:=by kernel_rfl
end Go.Proofs.YtdlggpcakaofoaaGreat
