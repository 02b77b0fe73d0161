import Derived.Test.YtmjenlogbkbgnaaGreatDoorC01
import Derived.BigQuiet
namespace Go.Proofs.YtmjenlogbkbgnaaGreatDoor
open Go.RowKit Go.Shelf
set_option linter.unusedVariables false
set_option linter.unusedSimpArgs false
set_option maxRecDepth 100000
set_option maxHeartbeats 8000000
theorem asks_self:∀ (c:Ch) (b:Bool),∀ p∈asksL b c c,p.1=p.2
 | .leaf _ _,b=>fun p hp=>by simp [asksL] at hp
 | .box c,b=>asks_self c b
 | .ref m r c,b=>fun p hp=>by
  simp only [asksL,List.mem_cons,List.mem_append] at hp
  rcases hp with rfl|hp|hp
  ·rfl
  ·split at hp
   ·simp at hp;subst hp;rfl
   ·simp at hp
  ·exact asks_self c _ p hp
theorem alike_sym:∀ (c d:Ch),alikeB c d=alikeB d c
 | .leaf k s,.leaf k' s'=>by simp only [alikeB];congr 1 <;> exact decide_eq_decide.2 ⟨Eq.symm,Eq.symm⟩
 | .box c,.box d=>alike_sym c d
 | .ref m r c,.ref m' r' d=>by simp only [alikeB,alike_sym c d];congr 1;exact decide_eq_decide.2 ⟨Eq.symm,Eq.symm⟩
 | .leaf _ _,.box _=>rfl
 | .leaf _ _,.ref _ _ _=>rfl
 | .box _,.leaf _ _=>rfl
 | .box _,.ref _ _ _=>rfl
 | .ref _ _ _,.leaf _ _=>rfl
 | .ref _ _ _,.box _=>rfl
theorem alike_regs:∀ (c d:Ch),alikeB c d=true→c.regs.length=d.regs.length
 | .leaf _ _,.leaf _ _,_=>rfl
 | .box c,.box d,h=>alike_regs c d h
 | .ref m r c,.ref m' r' d,h=>by
  simp only [alikeB,Bool.and_eq_true] at h
  simp [Ch.regs,alike_regs c d h.2]
theorem asks_has:∀ (c d:Ch) (b:Bool),alikeB c d=true→∀ (i:Nat) (r s:Int),c.regs[i]?=some r→d.regs[i]?=some s→(r,s)∈asksL b c d
 | .leaf _ _,.leaf _ _,b,_=>fun i r s h _=>by simp [Ch.regs] at h
 | .box c,.box d,b,h=>asks_has c d b h
 | .ref m r c,.ref m' r' d,b,h=>fun i x y hx hy=>by
  simp only [alikeB,Bool.and_eq_true] at h
  cases i with
  | zero =>
   simp [Ch.regs] at hx hy
   subst hx
   subst hy
   simp [asksL]
  | succ i =>
   have:=asks_has c d (b || m) h.2 i x y (by simpa [Ch.regs] using hx) (by simpa [Ch.regs] using hy)
   simp [asksL,this]
theorem asks_lens:∀ (c d:Ch) (b:Bool),alikeB c d=true→c.regs.length≤(asksL b c d).length∧(asksL b d c).length=(asksL b c d).length
 | .leaf _ _,.leaf _ _,b,_=>⟨Nat.zero_le _,rfl⟩
 | .box c,.box d,b,h=>asks_lens c d b h
 | .ref m r c,.ref m' r' d,b,h=>by
  simp only [alikeB,Bool.and_eq_true,decide_eq_true_eq] at h
  obtain ⟨rfl,h⟩:=h
  obtain ⟨h1,h2⟩:=asks_lens c d (b || m) h
  simp only [asksL,Ch.regs,List.length_cons,List.length_append]
  cases b <;> simp only [Bool.false_or,Bool.true_or] at h1 h2 ⊢ <;> simp <;> constructor <;> omega
def hasP (l:List (Int × Int)) (p:Int × Int):Bool:=l.any fun q=>decide (q=p)
theorem hasP_mem {l:List (Int × Int)} {p:Int × Int} (h:p∈l):hasP l p=true:=List.any_eq_true.2 ⟨p,h,by simp⟩
theorem hasP_on {l:List (Int × Int)} {p q:Int × Int} {k:Nat} (hq:l[k]?=some q):hasP (l.take (k+1)) p=(hasP (l.take k) p || decide (q=p)):=by
 unfold hasP
 rw [List.take_add_one,hq]
 simp [List.any_append]
def RowP (W:World) (v:Value) (l:List (Int × Int)):Prop:=∃ a cap,v=.slice a l.length cap∧PrR W a l.length cap l
theorem RowP.bel {W W':World} {v:Value} {l:List (Int × Int)} (h:RowP W v l) (k:Below W.heap.size W W'):RowP W' v l:=by
 obtain ⟨a,cap,e,h⟩:=h
 exact ⟨a,cap,e,h.bel k⟩
theorem Flows_row (t u:Ty) (L:List (Int × Int)) (er:Int) (hF:FlIs t u L er) (f f':Fv) (w:World) (h:TyAt w f t) (h':TyAt w f' u) :
  Calls Tryz.prog 15 #[f.v,f'.v] w fun e w'=>∃ a cap,e=.returned (.tuple #[.slice a L.length cap,.int .i64 er])∧PrR w' a L.length cap L∧Below w.heap.size w w' :=
 (Flows_any t u L er hF f f' w h h').mono fun e w' ⟨v,h1,h2,h3⟩=>by
  obtain ⟨a,cap,rfl,h4⟩:=PrR.own (n:=0) h2
  exact ⟨a,cap,h1,h4,h3⟩
theorem FlIs.self {t:Ty} {L:List (Int × Int)} {er:Int} (h:FlIs t t L er):(∀ p∈L,p.1=p.2)∧L.length≤1000∧(isT t=false∧er=2∧L=[]∨er=0∧∃ c,t=c.ty∧Ok c):=by
 rcases h with ⟨h1,rfl,rfl⟩|⟨c,d,rfl,hd,hc,-,h2⟩
 ·exact ⟨fun p hp=>by simp at hp,by simp,.inl ⟨by rcases h1 with h|h <;> exact h,rfl,rfl⟩⟩
 ·obtain rfl:=Ch.ty_inj hd
  rcases h2 with ⟨h3,-,-⟩|⟨-,rfl,rfl⟩
  ·rw [alike_self] at h3;cases h3
  ·exact ⟨asks_self c false,by have:=asksL_len false c c;have:=hc.2;omega,.inr ⟨rfl,c,rfl,hc⟩⟩
theorem FlIs.al {t u:Ty} {L L':List (Int × Int)} {er er':Int} (h:FlIs t u L er) (h':FlIs u t L' er'):∃ al:Bool,decide (er=0)=al∧decide (er'=0)=al∧(∀ (f f':Fv) (w:World),TyAt w f t→TyAt w f' u→Calls Tryz.prog 21 #[f.v,f'.v] w fun e w'=>e=.returned (.bool al)∧Below w.heap.size w w') ∧
  (er=0→∃ c d,t=c.ty∧u=d.ty∧Ok c∧Ok d∧alikeB c d=true∧L=asksL false c d∧L'=asksL false d c):=by
 rcases h with ⟨h1,rfl,rfl⟩|⟨c,d,rfl,rfl,hc,hd,h2⟩
 ·refine ⟨false,rfl,?_,fun f f' w a b=>Alike_no t u f f' w a b h1,fun e=>by cases e⟩
  rcases h' with ⟨-,-,rfl⟩|⟨c,d,e1,e2,hc,hd,-⟩
  ·rfl
  ·subst e1
   subst e2
   rcases h1 with h|h
   ·rw [hd.is] at h;cases h
   ·rw [hc.is] at h;cases h
 ·have k:=h'
  rcases k with ⟨k1,-,-⟩|⟨d',c',e1,e2,-,-,k2⟩
  ·rcases k1 with h|h
   ·rw [hd.is] at h;cases h
   ·rw [hc.is] at h;cases h
  ·obtain rfl:=Ch.ty_inj e1
   obtain rfl:=Ch.ty_inj e2
   rcases h2 with ⟨h3,rfl,rfl⟩|⟨h3,rfl,rfl⟩
   ·have h4:alikeB d c=false:=by rw [alike_sym];exact h3
    refine ⟨false,rfl,?_,fun f f' w a b=>(Alike_yes c d f f' w a b hc hd).mono fun e w' ⟨x,y⟩=>⟨by rw [x,h3],y⟩,fun e=>by cases e⟩
    rcases k2 with ⟨-,-,rfl⟩|⟨k3,-,-⟩
    ·rfl
    ·rw [h4] at k3;cases k3
   ·have h4:alikeB d c=true:=by rw [alike_sym];exact h3
    rcases k2 with ⟨k3,-,-⟩|⟨-,rfl,rfl⟩
    ·rw [h4] at k3;cases k3
    ·exact ⟨true,rfl,rfl,fun f f' w a b=>(Alike_yes c d f f' w a b hc hd).mono fun e w' ⟨x,y⟩=>⟨by rw [x,h3],y⟩,fun _=>⟨c,d,rfl,rfl,hc,hd,h3,rfl,rfl⟩⟩
theorem eql_pr (x y r s:Int) (w:World):(binOp .eql 36 (prV (x,y)) (prV (r,s))).run Tryz.prog w=.ok (.bool (decide ((x,y)=(r,s)))) w:=by
 simp only [binOp,Op.equal]
 rw [show Op.maxDepth=(Op.maxDepth - 2)+1+1 from rfl]
 simp [Op.equalIn,run_underlying Tryz.underlying36,run_underlying Tryz.underlying3,go_sem]
 by_cases h1:x=r <;> by_cases h2:y=s <;> simp [h1,h2]
theorem flows_fit (AW:∀ W:World,Calls Tryz.prog 8 #[] W fun e w'=>e=.returned (.bool true)∧Below W.heap.size W w') (t u:Ty) (f g:Fv) (w:World) (h:TyAt w f t) (h':TyAt w g u) (hf:FitC 60 t true) (hg:FitC 60 u true) :
  Calls Tryz.prog 5 #[f.v,g.v] w fun e w'=>e=.returned (.bool true)∧Below w.heap.size w w':=by
 obtain ⟨L,er,hL⟩:=fl_ex t t
 obtain ⟨L2,er2,hL2⟩:=fl_ex t u
 obtain ⟨L3,er3,hL3⟩:=fl_ex u t
 obtain ⟨hself,hlen,hcase⟩:=hL.self
 obtain ⟨al,ha2,ha3,hAl,hall⟩:=hL2.al hL3
 have HAW:=jH AW
 have B2:Below w.heap.size w ((w.alloc f.o).alloc g.o):=belA (belA bR)
 have HB2:=jH B2
 have HA1:Hid (At ((w.alloc f.o).alloc g.o) w.heap.size f.o):=jH ((At.new _ _).alloc _)
 have HA2:Hid (At ((w.alloc f.o).alloc g.o) (w.heap.size+1) g.o):=jH (at_snd _ _ _)
 have C1:=jH (fun (V:World) (hV:Below w.heap.size w V)=>hf f V (h.bel hV))
 have C2:=jH (fun (V:World) (hV:Below w.heap.size w V)=>hg g V (h'.bel hV))
 have C3:=jH (fun (V:World) (hV:Below w.heap.size w V)=>Flows_row t t L er hL f f V (h.bel hV) (h.bel hV))
 have C4:=jH (fun (V:World) (hV:Below w.heap.size w V)=>Flows_row t u L2 er2 hL2 f g V (h.bel hV) (h'.bel hV))
 have C5:=jH (fun (V:World) (hV:Below w.heap.size w V)=>Flows_row u t L3 er3 hL3 g f V (h'.bel hV) (h.bel hV))
 have C6:=jH (fun (V:World) (hV:Below w.heap.size w V)=>hAl f g V (h.bel hV) (h'.bel hV))
 have HT:=jH h
 have HU:=jH h'
 have HSELF:=jH hself
 have HCASE:=jH hcase
 have HALL:=jH hall
 have n0:(L.length:Int)≤1000:=by omega
 have C10:=jH (C1.out _ B2)
 obtain ⟨fk,fm,fr,fs,fa,fn,fc⟩:=f
 obtain ⟨gk,gm,gr,gs,ga,gn,gc⟩:=g
 clear h h' hf hg hL hL2 hL3 hself hcase hall hAl AW B2 C1 hlen
 go_enter Tryz.func5,Tryz.ntmps5
 go_wp2_with (go_at_call 14;refine C10.out.mono ?_;rintro e w1 ⟨rfl,hb⟩;have HB3:=jH (jB HB2.out hb);have HD3:=jH hb;obtain ⟨-,q0,q1,q2,q3,q4⟩:=(HA2.out.below hb).ty;have C20:=jH (C2.out _ HB3.out);clear hb C10)
 go_wp2_with (go_at_call 14;refine C20.out.mono ?_;rintro e w2 ⟨rfl,hb⟩;have HB4:=jH (jB HB3.out hb);have HD4:=jH (jB HD3.out hb);clear q0 q1 q2 q3 q4;obtain ⟨-,p0,p1,p2,p3,p4⟩:=(HA1.out.below HD4.out).ty;obtain ⟨-,q0,q1,q2,q3,q4⟩:=(HA2.out.below HD4.out).ty;have C30:=jH (C3.out _ HB4.out);clear hb C20)
 go_wp2_with (go_at_call 15;refine C30.out.mono ?_;rintro e w3 ⟨a,cap,rfl,hP,hb⟩;have HB5:=jH (jB HB4.out hb);have HD5:=jH (jB HD4.out hb);have HP:=jH hP;clear hb hP C30 p0 p1 p2 p3 p4 q0 q1 q2 q3 q4)
 go_loopw [7] (fun v V=>∃ i:Nat,i≤L.length∧v=.int .i64 (i:Int)∧Below w3.heap.size w3 V) (fun v _=>L.length - (intOf v).toNat)
 case atStart=>exact ⟨0,Nat.zero_le _,rfl,Below.refl _ _⟩
 case round =>
  obtain ⟨i,hi,rfl,hB⟩:=hrel
  have HB:=jH hB
  clear hB
  by_cases hlt:i<L.length
  ·obtain ⟨⟨x,y⟩,hp⟩:∃ p,L[i]?=some p:=⟨_,List.getElem?_eq_getElem hlt⟩
   have hxy:x=y:=HSELF.out _ (List.mem_of_getElem? hp)
   subst hxy
   obtain ⟨g,off,ea,hg,c0,c1⟩:=(HP.out.bel HB.out).nth hp
   simp only at c0 c1
   have ea2:a=some ⟨g,off,none⟩:=ea
   subst ea2
   have i0:(0:Int)≤(i:Int):=by omega
   have i1:(i:Int)<(L.length:Int):=by omega
   have hne:(x != x)=false:=by simp
   have HLT:=jH hlt
   clear hlt hp ea hi
   go_upto_region 7 with fail
   go_quiet (fail)
   go_wp2_with fail
   exact ⟨⟨i+1,HLT.out,rfl,belN HB.out _⟩,by have:=HLT.out;show L.length - ((i:Int)+1).toNat<L.length - (i:Int).toNat;omega⟩
  ·obtain rfl:i=L.length:=by omega
   have lt:¬ (L.length:Int)<(L.length:Int):=by omega
   have HBr:=jH (jB HB5.out HB.out)
   have HDr:=jH (jB HD5.out HB.out)
   obtain ⟨-,p0,p1,p2,p3,p4⟩:=(HA1.out.below HDr.out).ty
   obtain ⟨-,q0,q1,q2,q3,q4⟩:=(HA2.out.below HDr.out).ty
   clear hlt hi
   rcases HCASE.out with ⟨-,he,hL⟩|⟨he,-⟩
   ·subst he
    subst hL
    go_wp2_with (go_at_call 8;refine (HAW.out _).mono ?_;rintro e w5 ⟨rfl,hb⟩;have HB6:=jH (jB HBr.out hb);clear hb)
    go_ret
    exact ⟨rfl,HB6.out⟩
   ·subst he
    have C40:=jH (C4.out _ HBr.out)
    go_wp2_with (go_at_call 15;refine C40.out.mono ?_;rintro e w5 ⟨a2,cap2,rfl,hP,hb⟩;have HB6:=jH (jB HBr.out hb);have HD6:=jH (jB HDr.out hb);have HP2:=jH hP;clear p0 p1 p2 p3 p4 q0 q1 q2 q3 q4;obtain ⟨-,p0,p1,p2,p3,p4⟩:=(HA1.out.below HD6.out).ty;obtain ⟨-,q0,q1,q2,q3,q4⟩:=(HA2.out.below HD6.out).ty;have C50:=jH (C5.out _ HB6.out);clear hb hP C40)
    go_wp2_with (go_at_call 15;refine C50.out.mono ?_;rintro e w6 ⟨a3,cap3,rfl,hP,hb⟩;have HB7:=jH (jB HB6.out hb);have HD7:=jH (jB HD6.out hb);have HP23:=jH (HP2.out.bel hb);have HP3:=jH hP;clear p0 p1 p2 p3 p4 q0 q1 q2 q3 q4;obtain ⟨-,p0,p1,p2,p3,p4⟩:=(HA1.out.below HD7.out).ty;obtain ⟨-,q0,q1,q2,q3,q4⟩:=(HA2.out.below HD7.out).ty;have C60:=jH (C6.out _ HB7.out);clear hb hP C50)
    cases al with
    | false =>
     have k2:¬ er2=0:=by simpa using ha2
     have k3:¬ er3=0:=by simpa using ha3
     have k2b:(er2 == 0)=false:=by simpa using k2
     have k3b:(er3 == 0)=false:=by simpa using k3
     have k2c:(er2 != 0)=true:=by simpa using k2
     clear ha2 ha3
     go_wp2_with (first
      | (go_at_call 21;refine C60.out.mono ?_;rintro e w7 ⟨rfl,hb⟩;have HB8:=jH (jB HB7.out hb);clear hb)
      | (go_at_call 8;refine (HAW.out _).mono ?_;rintro e w8 ⟨rfl,hb⟩;have HB9:=jH (jB HB8.out hb);clear hb))
     go_ret
     exact ⟨rfl,HB9.out⟩
    | true =>
     obtain rfl:er2=0:=by simpa using ha2
     obtain rfl:er3=0:=by simpa using ha3
     obtain ⟨c,d,rfl,rfl,hc,hd,hcd,hl2,hl3⟩:=HALL.out rfl
     have CR1:=jH (fun (V:World) (hV:Below w.heap.size w V)=>Regions_yes c _ V hc (HT.out.bel hV))
     have CR2:=jH (fun (V:World) (hV:Below w.heap.size w V)=>Regions_yes d _ V hd (HU.out.bel hV))
     have HCD:=jH hcd
     have HL2:=jH hl2
     have HL3:=jH hl3
     clear ha2 ha3 hcd hl2 hl3
     go_upto_region 17 with (go_at_call 21;refine C60.out.mono ?_;rintro e w7 ⟨rfl,hb⟩;have HB8:=jH (jB HB7.out hb);have HD8:=jH (jB HD7.out hb);have HP24:=jH (HP23.out.bel hb);have HP34:=jH (HP3.out.bel hb);clear hb p0 p1 p2 p3 p4 q0 q1 q2 q3 q4)
     refine beginH (S:=fun V=>At V w.heap.size (Fv.o ⟨fk,fm,fr,fs,fa,fn,fc⟩)∧At V (w.heap.size+1) (Fv.o ⟨gk,gm,gr,gs,ga,gn,gc⟩)) (fun _ _ _ _ _ h=>h) (by kernel_rfl) ⟨(HA1.out.below HD8.out).drew,(HA2.out.below HD8.out).drew⟩ (fun hq hH=>?_)
     refine tq 0 86 (tyV fk fm fr fs fa fn fc) hq rfl rfl (fun W hSw=>by (obtain ⟨-,u0,u1,u2,u3,u4⟩:=hSw.1.ty;simp only [Nat.zero_add] at u0 u1 u2 u3 u4;go_simp;try rfl)) hH ?_
     simp only [pb,pc]
     refine tq 2 88 (tyV gk gm gr gs ga gn gc) hq rfl rfl (fun W hSw=>by (obtain ⟨-,u0,u1,u2,u3,u4⟩:=hSw.2.ty;simp only [Nat.zero_add] at u0 u1 u2 u3 u4;go_simp;try rfl)) hH ?_
     simp only [pb,pc]
     refine aR1 1 rfl (fun K hK=>?_)
     have C1:=jH (CR1.out _ (belN HB8.out 1))
     go_simp
     refine C1.out.mono ?_
     rintro e w8 ⟨⟨v1,rfl,ho1⟩,hb⟩
     have HB9:=jH (jB (belN HB8.out 1) hb)
     have hH9:At w8 w.heap.size (Fv.o ⟨fk,fm,fr,fs,fa,fn,fc⟩)∧At w8 (w.heap.size+1) (Fv.o ⟨gk,gm,gr,gs,ga,gn,gc⟩):=⟨hH.1.below hb,hH.2.below hb⟩
     have HP25:=jH ((HP24.out.bel (belN bR 1)).bel hb)
     have HP35:=jH ((HP34.out.bel (belN bR 1)).bel hb)
     have HO1:=jH ho1
     clear hb C1 ho1
     go_wp2_with fail
     refine hK.out _ _ hH9 (fun hH=>?_)
     clear hK K hH9
     try simp only [Act.put,List.setIfInBounds_toArray,pb,pc]
     refine aR1 3 rfl (fun K hK=>?_)
     have C1:=jH (CR2.out _ HB9.out)
     go_simp
     refine C1.out.mono ?_
     rintro e w9 ⟨⟨v2,rfl,ho2⟩,hb⟩
     have HB10:=jH (jB HB9.out hb)
     have hH10:At w9 w.heap.size (Fv.o ⟨fk,fm,fr,fs,fa,fn,fc⟩)∧At w9 (w.heap.size+1) (Fv.o ⟨gk,gm,gr,gs,ga,gn,gc⟩):=⟨hH.1.below hb,hH.2.below hb⟩
     have HP26:=jH (HP25.out.bel hb)
     have HP36:=jH (HP35.out.bel hb)
     have HO1b:=jH (own_bel HO1.out hb)
     have HO2:=jH ho2
     clear hb C1 ho2
     go_wp2_with fail
     refine hK.out _ _ hH10 (fun hH=>?_)
     clear hK K hH10
     try simp only [Act.put,List.setIfInBounds_toArray,pb,pc]
     refine tz 4 11 (v1) hq rfl rfl hH ?_
     simp only [pb,pc]
     refine tz 5 12 (v2) hq rfl rfl hH ?_
     simp only [pb,pc]
     refine wpAnyH_done (by kernel_rfl) ?_ _
     clear hH hq
     obtain ⟨ga1,gc1,e1⟩:=own_sl HO1b.out
     obtain ⟨ga2,gc2,e2⟩:=own_sl HO2.out
     subst e1
     subst e2
     have n2:(L2.length:Int)≤1000:=by have:=HL2.out;subst this;have:=asksL_len false c d;have:=hd.2;have:=hc.2;omega
     have n3:(L3.length:Int)≤1000:=by have:=HL3.out;subst this;have:=asksL_len false d c;have:=hd.2;have:=hc.2;omega
     have HLE:=jH (asks_lens c d false HCD.out)
     have n4:(c.regs.length:Int)≤1000:=by have:=HLE.out.1;rw [← HL2.out] at this;omega
     have HRG:=jH (alike_regs c d HCD.out)
     go_wp2_with fail
     go_loopw [13] (fun v V=>∃ i:Nat,i≤c.regs.length∧v=.int .i64 (i:Int)∧Below w9.heap.size w9 V) (fun v _=>c.regs.length - (intOf v).toNat)
     case atStart=>exact ⟨0,Nat.zero_le _,rfl,Below.refl _ _⟩
     case round =>
      obtain ⟨i,hi,rfl,hB⟩:=hrel
      have HB:=jH hB
      clear hB
      by_cases hlt:i<c.regs.length
      ·obtain ⟨r,hr⟩:∃ p,c.regs[i]?=some p:=⟨_,List.getElem?_eq_getElem hlt⟩
       obtain ⟨s,hs⟩:∃ p,d.regs[i]?=some p:=⟨_,List.getElem?_eq_getElem (by rw [← HRG.out];exact hlt)⟩
       have HR:=jH hr
       have HS:=jH hs
       have HT1:Hid (hasP L2 (r,s)=true):=jH (by rw [HL2.out];exact hasP_mem (asks_has c d false HCD.out i r s hr hs))
       have HT2:Hid (hasP L3 (s,r)=true):=jH (by rw [HL3.out];exact hasP_mem (asks_has d c false (by rw [alike_sym];exact HCD.out) i s r hs hr))
       obtain ⟨g1,cp1,e1⟩:=own_is HO1b.out (by omega)
       obtain ⟨g2,cp2,e2⟩:=own_is HO2.out (by rw [← HRG.out];omega)
       cases e1
       cases e2
       have i0:(0:Int)≤(i:Int):=by omega
       have i1:(i:Int)<(c.regs.length:Int):=by omega
       have i2:(i:Int)<(d.regs.length:Int):=by rw [← HRG.out];omega
       have HLT:=jH hlt
       clear hr hs hlt hi
       go_wp2_with fail
       go_loopw [14,16] (fun va vk V=>∃ k:Nat,k≤L2.length∧vk=.int .i64 (k:Int)∧va=.bool (hasP (L2.take k) (r,s))∧Below w9.heap.size w9 V) (fun _ vk _=>L2.length - (intOf vk).toNat)
       case atStart=>exact ⟨0,Nat.zero_le _,rfl,rfl,HB.out⟩
       case round =>
        clear HB
        obtain ⟨k,hk,rfl,rfl,hB⟩:=hrel
        have HB:=jH hB
        clear hB
        by_cases hkl:k<L2.length
        ·obtain ⟨⟨x,y⟩,hp⟩:∃ p,L2[k]?=some p:=⟨_,List.getElem?_eq_getElem hkl⟩
         obtain ⟨g,off,ea,hg,c0,c1⟩:=(HP26.out.bel HB.out).nth hp
         simp only at c0 c1
         have ea2:a2=some ⟨g,off,none⟩:=ea
         subst ea2
         obtain ⟨b1,-⟩:=own_cell (own_bel HO1b.out HB.out) (j:=i) (u:=.int .i64 r) (by simp [iCells,HR.out])
         obtain ⟨b2,-⟩:=own_cell (own_bel HO2.out HB.out) (j:=i) (u:=.int .i64 s) (by simp [iCells,HS.out])
         have k0:(0:Int)≤(k:Int):=by omega
         have k1:(k:Int)<(L2.length:Int):=by omega
         have heq:∀ W,(binOp .eql 36 (.agg #[.int .i64 x,.int .i64 y]) (.agg #[.int .i64 r,.int .i64 s])).run Tryz.prog W=.ok (.bool (decide ((x,y)=(r,s)))) W:=fun W=>eql_pr x y r s W
         have HON:=jH (hasP_on (p:=(r,s)) hp)
         have HK:=jH hkl
         clear hkl hp ea hk
         cases hv:hasP (L2.take k) (r,s) with
         | true =>
          go_upto_region 25 with fail
          go_quiet (fail)
          go_wp2_with fail
          exact ⟨⟨k+1,HK.out,rfl,by rw [HON.out,hv];rfl,belN HB.out _⟩,by have:=HK.out;show L2.length - ((k:Int)+1).toNat<L2.length - (k:Int).toNat;omega⟩
         | false =>
          go_upto_region 25 with fail
          go_quiet (fail)
          go_wp2_with fail
          exact ⟨⟨k+1,HK.out,rfl,by rw [HON.out,hv];by_cases h1:x=r <;> by_cases h2:y=s <;> simp [h1,h2],belN HB.out _⟩,by have:=HK.out;show L2.length - ((k:Int)+1).toNat<L2.length - (k:Int).toNat;omega⟩
        ·obtain rfl:k=L2.length:=by omega
         have lt:¬ (L2.length:Int)<(L2.length:Int):=by omega
         clear hkl hk
         rw [List.take_length,HT1.out]
         go_wp2_with fail
         go_loopw [15,17] (fun va vk V=>∃ k:Nat,k≤L3.length∧vk=.int .i64 (k:Int)∧va=.bool (hasP (L3.take k) (s,r))∧Below w9.heap.size w9 V) (fun _ vk _=>L3.length - (intOf vk).toNat)
         case atStart=>exact ⟨0,Nat.zero_le _,rfl,rfl,HB.out⟩
         case round =>
          clear HB
          obtain ⟨k,hk,rfl,rfl,hB⟩:=hrel
          have HB:=jH hB
          clear hB
          by_cases hkl:k<L3.length
          ·obtain ⟨⟨x,y⟩,hp⟩:∃ p,L3[k]?=some p:=⟨_,List.getElem?_eq_getElem hkl⟩
           obtain ⟨g,off,ea,hg,c0,c1⟩:=(HP36.out.bel HB.out).nth hp
           simp only at c0 c1
           have ea2:a3=some ⟨g,off,none⟩:=ea
           subst ea2
           obtain ⟨b1,-⟩:=own_cell (own_bel HO1b.out HB.out) (j:=i) (u:=.int .i64 r) (by simp [iCells,HR.out])
           obtain ⟨b2,-⟩:=own_cell (own_bel HO2.out HB.out) (j:=i) (u:=.int .i64 s) (by simp [iCells,HS.out])
           have k0:(0:Int)≤(k:Int):=by omega
           have k1:(k:Int)<(L3.length:Int):=by omega
           have heq:∀ W,(binOp .eql 36 (.agg #[.int .i64 x,.int .i64 y]) (.agg #[.int .i64 s,.int .i64 r])).run Tryz.prog W=.ok (.bool (decide ((x,y)=(s,r)))) W:=fun W=>eql_pr x y s r W
           have HON:=jH (hasP_on (p:=(s,r)) hp)
           have HK:=jH hkl
           clear hkl hp ea hk
           cases hv:hasP (L3.take k) (s,r) with
           | true =>
            go_upto_region 29 with fail
            go_quiet (fail)
            go_wp2_with fail
            exact ⟨⟨k+1,HK.out,rfl,by rw [HON.out,hv];rfl,belN HB.out _⟩,by have:=HK.out;show L3.length - ((k:Int)+1).toNat<L3.length - (k:Int).toNat;omega⟩
           | false =>
            go_upto_region 29 with fail
            go_quiet (fail)
            go_wp2_with fail
            exact ⟨⟨k+1,HK.out,rfl,by rw [HON.out,hv];by_cases h1:x=s <;> by_cases h2:y=r <;> simp [h1,h2],belN HB.out _⟩,by have:=HK.out;show L3.length - ((k:Int)+1).toNat<L3.length - (k:Int).toNat;omega⟩
          ·obtain rfl:k=L3.length:=by omega
           have lt:¬ (L3.length:Int)<(L3.length:Int):=by omega
           clear hkl hk
           rw [List.take_length,HT2.out]
           go_wp2_with fail
           exact ⟨⟨i+1,HLT.out,rfl,HB.out⟩,by have:=HLT.out;show c.regs.length - ((i:Int)+1).toNat<c.regs.length - (i:Int).toNat;omega⟩
      ·obtain rfl:i=c.regs.length:=by omega
       have lt:¬ (c.regs.length:Int)<(c.regs.length:Int):=by omega
       have HBr:=jH (jB HB10.out HB.out)
       have z1:(c.regs.length:Int)≤(L2.length:Int):=by have:=HLE.out.1;rw [← HL2.out] at this;omega
       have z2:(L3.length:Int)=(L2.length:Int):=by have:=HLE.out.2;rw [← HL2.out,← HL3.out] at this;omega
       have z2b:((L3.length:Int) == (L2.length:Int))=true:=by rw [z2];simp
       clear hlt hi
       go_wp2_with (go_at_call 8;refine (HAW.out _).mono ?_;rintro e w11 ⟨rfl,hb⟩;have HBf:=jH (jB HBr.out hb);clear hb)
       go_ret
       exact ⟨rfl,HBf.out⟩
end Go.Proofs.YtmjenlogbkbgnaaGreatDoor
