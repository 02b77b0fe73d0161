import Derived.Test.YtmjenlogbkbgnaaGreatDoorC01
import Derived.Test.YtmjenlogbkbgnaaGreatDoorC06
import Derived.Test.YtmjenlogbkbgnaaGreatDoorC07
import Derived.Test.YtmjenlogbkbgnaaGreatDoorB32
import Derived.BigQuiet
namespace Go.Proofs.YtmjenlogbkbgnaaGreatDoor
open Go.RowKit Go.Shelf
set_option linter.unusedVariables false
set_option linter.unusedSimpArgs false
set_option maxRecDepth 100000
set_option maxHeartbeats 8000000
theorem alike_sym:∀ (c d:Ch),alikeB c d=alikeB d c
 | .leaf k s,.leaf k' s'=>by simp only [alikeB];congr 1 <;> exact decide_eq_decide.2 ⟨Eq.symm,Eq.symm⟩
 | .box c,.box d=>alike_sym c d
 | .ref m r c,.ref m' r' d=>by simp only [alikeB,alike_sym c d];congr 1;exact decide_eq_decide.2 ⟨Eq.symm,Eq.symm⟩
 | .leaf _ _,.box _=>rfl
 | .leaf _ _,.ref _ _ _=>rfl
 | .box _,.leaf _ _=>rfl
 | .box _,.ref _ _ _=>rfl
 | .ref _ _ _,.leaf _ _=>rfl
 | .ref _ _ _,.box _=>rfl
def RowP (W:World) (v:Value) (l:List (Int × Int)):Prop:=∃ a cap,v=.slice a l.length cap∧PrR W a l.length cap l
theorem RowP.bel {W W':World} {v:Value} {l:List (Int × Int)} (h:RowP W v l) (k:Below W.heap.size W W'):RowP W' v l:=by
 obtain ⟨a,cap,e,h⟩:=h
 exact ⟨a,cap,e,h.bel k⟩
theorem Flows_row (t u:Ty) (L:List (Int × Int)) (er:Int) (hF:FlIs t u L er) (f f':Fv) (w:World) (h:TyAt w f t) (h':TyAt w f' u) :
  Calls Tryz.prog 15 #[f.v,f'.v] w fun e w'=>∃ a cap,e=.returned (.tuple #[.slice a L.length cap,.int .i64 er])∧PrR w' a L.length cap L∧Below w.heap.size w w' :=
 (Flows_any t u L er hF f f' w h h').mono fun e w' ⟨v,h1,h2,h3⟩=>by
  obtain ⟨a,cap,rfl,h4⟩:=PrR.own (n:=0) h2
  exact ⟨a,cap,h1,h4,h3⟩
theorem FlIs.al {t u:Ty} {L L':List (Int × Int)} {er er':Int} (h:FlIs t u L er) (h':FlIs u t L' er'):∃ al:Bool,decide (er=0)=al∧decide (er'=0)=al∧(∀ (f f':Fv) (w:World),TyAt w f t→TyAt w f' u→Calls Tryz.prog 21 #[f.v,f'.v] w fun e w'=>e=.returned (.bool al)∧Below w.heap.size w w') ∧
  (er=0→∃ c d,t=c.ty∧u=d.ty∧Ok c∧Ok d∧alikeB c d=true∧L=asksL false c d∧L'=asksL false d c):=by
 rcases h with ⟨h1,rfl,rfl⟩|⟨c,d,rfl,rfl,hc,hd,h2⟩
 ·refine ⟨false,rfl,?_,fun f f' w a b=>Alike_no t u f f' w a b h1,fun e=>by cases e⟩
  rcases h' with ⟨-,-,rfl⟩|⟨c,d,e1,e2,hc,hd,-⟩
  ·rfl
  ·subst e1
   subst e2
   rcases h1 with h|h
   ·rw [hd.is] at h;cases h
   ·rw [hc.is] at h;cases h
 ·have k:=h'
  rcases k with ⟨k1,-,-⟩|⟨d',c',e1,e2,-,-,k2⟩
  ·rcases k1 with h|h
   ·rw [hd.is] at h;cases h
   ·rw [hc.is] at h;cases h
  ·obtain rfl:=Ch.ty_inj e1
   obtain rfl:=Ch.ty_inj e2
   rcases h2 with ⟨h3,rfl,rfl⟩|⟨h3,rfl,rfl⟩
   ·have h4:alikeB d c=false:=by rw [alike_sym];exact h3
    refine ⟨false,rfl,?_,fun f f' w a b=>(Alike_yes c d f f' w a b hc hd).mono fun e w' ⟨x,y⟩=>⟨by rw [x,h3],y⟩,fun e=>by cases e⟩
    rcases k2 with ⟨-,-,rfl⟩|⟨k3,-,-⟩
    ·rfl
    ·rw [h4] at k3;cases k3
   ·have h4:alikeB d c=true:=by rw [alike_sym];exact h3
    rcases k2 with ⟨k3,-,-⟩|⟨-,rfl,rfl⟩
    ·rw [h4] at k3;cases k3
    ·exact ⟨true,rfl,rfl,fun f f' w a b=>(Alike_yes c d f f' w a b hc hd).mono fun e w' ⟨x,y⟩=>⟨by rw [x,h3],y⟩,fun _=>⟨c,d,rfl,rfl,hc,hd,h3,rfl,rfl⟩⟩
theorem eql_pr (x y r s:Int) (w:World):(binOp .eql 36 (prV (x,y)) (prV (r,s))).run Tryz.prog w=.ok (.bool (decide ((x,y)=(r,s)))) w:=by
 simp only [binOp,Op.equal]
 rw [show Op.maxDepth=(Op.maxDepth - 2)+1+1 from rfl]
 simp [Op.equalIn,run_underlying Tryz.underlying36,run_underlying Tryz.underlying3,go_sem]
 by_cases h1:x=r <;> by_cases h2:y=s <;> simp [h1,h2]
theorem rc_two {ls:List Nat} (h:RcF [(1,0)] 2 0 ls):ls.length=2:=by
 obtain ⟨x,hx,h0⟩:=(h.iff 0).1 Rch.refl
 obtain ⟨y,hy,h1⟩:=(h.iff 1).1 (Rch.step (x:=0) Rch.refl (by simp))
 obtain rfl:x=0:=by omega
 obtain rfl:y=1:=by omega
 have hu:=h.up
 have hl:=h.lt
 match ls,hx,hy,hu,hl with
 | [a],hx,hy,_,_=>simp at hx hy;omega
 | [a,b],_,_,_,_=>rfl
 | a::b::c::r,_,_,hu,hl =>
  exfalso
  simp only [List.pairwise_cons,List.mem_cons] at hu
  have h1:=hu.1 b (.inl rfl)
  have h2:=hu.2.1 c (.inl rfl)
  have h3:=hl c (by simp)
  omega
theorem From_two (w:World) (a:Option Addr) (cap:Nat) (hP:PrR w a 1 cap [(1,0)]) :
  Calls Tryz.prog 19 #[.slice a 1 cap,.int .i64 2,.int .i64 0] w fun e w'=>∃ gg c,e=.returned (.tuple #[.slice (some ⟨gg,0,none⟩) 2 c,.int .i64 0])∧Below w.heap.size w w' :=
 (From_yes w a 1 cap [(1,0)] hP (by decide) 2 0 (by decide)).mono fun e w' ⟨gg,c,ls,he,_,hr,hb⟩=>⟨gg,c,by rw [he,rc_two hr],hb⟩
theorem fl_two:FlIs (Ch.ref false 1 (.leaf 1 0)).ty (Ch.ref false 2 (.leaf 1 0)).ty [(1,2)] 0 :=
 .inr ⟨.ref false 1 (.leaf 1 0),.ref false 2 (.leaf 1 0),rfl,rfl,⟨⟨by omega,.inl ⟨.inl rfl,rfl⟩⟩,by decide⟩,⟨⟨by omega,.inl ⟨.inl rfl,rfl⟩⟩,by decide⟩,.inr ⟨by decide,by decide,rfl⟩⟩
theorem eql_one (w:World):(binOp .eql 36 (.agg #[.int .i64 1,.int .i64 0]) (.agg #[.int .i64 1,.int .i64 0])).run Tryz.prog w=.ok (.bool true) w:=eql_pr 1 0 1 0 w
abbrev rr2:Obj:=.cells #[.int .i64 0,.slice none 0 0,.int .i64 0,.slice none 0 0] 48
theorem z2_new (W:World):Z2 (W.alloc rr2) W.heap.size:=by
 have h:=At.new W rr2
 have hl:=h.lt
 exact ⟨hl,cell_of_row _ _ _ _ _ _ h,cell_of_row _ _ _ _ _ _ h,cell_of_row _ _ _ _ _ _ h,cell_of_row _ _ _ _ _ _ h⟩
theorem awake_true (w:World):Calls Tryz.prog 8 #[] w fun e w'=>e=.returned (.bool true)∧Below w.heap.size w w':=by
 have C0:=jH (hand_any w)
 go_enter Tryz.func8,Tryz.ntmps8
 go_wp2_with (first
  | (go_at_call 24;refine C0.out.mono ?_;rintro e w1 ⟨bu,bl,br,bn,bp,bq,rfl,hh,hb⟩;have HB1:=jH (belA (o:=uU bu) hb);have HH1:=jH (hh.bel (belA (Below.refl w1.heap.size w1) (o:=uU bu)));have HU1:=jH (At.new w1 (uU bu));obtain ⟨x0,x1,x2⟩:=HU1.out.un;have C1:=jH (Of_hand HH1.out);clear hh hb C0)
  | (go_at_call 9;refine C1.out.mono ?_;rintro e w2 ⟨v,rfl,ho,hb⟩;obtain ⟨a,cap,rfl,hp⟩:=PrR.own (n:=0) (l:=[(1,0)]) ho;have HP2:=jH hp;have HB2:=jH (jB HB1.out hb);have HU2:=jH (HU1.out.below hb);have C2:=jH (At_hand (HH1.out.bel hb));clear ho hp hb C1 x0 x1 x2;obtain ⟨x0,x1,x2⟩:=HU2.out.un)
  | (go_at_call 12;refine C2.out.mono ?_;rintro e w3 ⟨v,rfl,ho,hb⟩;obtain ⟨a3,cap3,rfl,-⟩:=PrR.own (n:=0) (l:=[(1,0)]) ho;have HP3:=jH (HP2.out.bel hb);have HB3:=jH (jB HB2.out hb);have C3:=jH (m0_any w3 1 (by decide) (by decide));clear ho hb C2 x0 x1 x2)
  | (go_at_call 25;with_reducible refine C3.out.mono ?_;rintro e w4 ⟨b4,rfl,ht,hb⟩;have HP4:=jH (HP3.out.bel hb);have HB4:=jH (jB HB3.out hb);have HT4:=jH ht;have C4:=jH (m0_any w4 2 (by decide) (by decide));clear ht hb C3)
  | (go_at_call 25;refine C4.out.mono ?_;rintro e w5 ⟨b5,rfl,ht,hb⟩;have HP5:=jH (HP4.out.bel hb);have HB5:=jH (jB HB4.out hb);have HT5:=jH ht;have HT45:=jH (HT4.out.bel hb);have C5:=jH (Flows_row _ _ _ _ fl_two _ _ w5 HT45.out HT5.out);clear ht hb C4)
  | (go_at_call 15;refine C5.out.mono ?_;rintro e w6 ⟨a6,cap6,rfl,-,hb⟩;have HP6:=jH (HP5.out.bel hb);have HB6:=jH (jB HB5.out hb);have C6:=jH (From_two w6 a cap HP6.out);clear hb C5)
  | (go_at_call 19;refine C6.out.mono ?_;rintro e w7 ⟨gg,c7,rfl,hb⟩;have HP7:=jH (HP6.out.bel hb);have HB7:=jH (jB HB6.out hb);have C7:=jH (fun cap2=>Closed_z (w7.alloc rr2) a cap w7.heap.size cap2 (HP7.out.bel (belA bR)) (z2_new w7));clear hb C6)
  | (go_at_call 17;refine (C7.out _).mono ?_;rintro e w8 ⟨rfl,hb⟩;have HB8:=jH (jB (belA HB7.out) hb);obtain ⟨g,off,ea,hg,c0,c1⟩:=((HP7.out.bel (belA bR)).bel hb).nth (i:=0) (p:=(1,0)) rfl;have ea2:a=some ⟨g,off,none⟩:=ea;subst ea2;simp only [Nat.zero_mul,Nat.add_zero] at c0 c1;have heq:=eql_one;clear hb C7 ea))
 go_ret
 exact ⟨rfl,HB8.out⟩
end Go.Proofs.YtmjenlogbkbgnaaGreatDoor
