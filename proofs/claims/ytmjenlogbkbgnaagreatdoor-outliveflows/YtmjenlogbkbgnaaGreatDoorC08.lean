/-
  OutliveFlows returns true for every two types, and leaves them as they were: the row of 'loanwordlaw15.OutliveFlows', and its card, tied to the program's text. No condition beyond the statement's own (the library's table laid).
-/
import Derived.Test.YtmjenlogbkbgnaaGreatDoorC05
import Derived.Test.YtmjenlogbkbgnaaGreatDoorB32
import Derived.Test.YtmjenlogbkbgnaaGreatDoorC06
import Derived.Test.YtmjenlogbkbgnaaGreatDoorC07
import Derived.Test.YtmjenlogbkbgnaaGreatDoorC09
namespace Go.Proofs.YtmjenlogbkbgnaaGreatDoor
open Go.RowKit Go.Shelf
set_option linter.unusedVariables false
set_option linter.unusedSimpArgs false
set_option maxRecDepth 100000
set_option maxHeartbeats 8000000
theorem rc_two {ls:List Nat} (h:RcF [(1,0)] 2 0 ls):ls.length=2:=by
 obtain ⟨x,hx,h0⟩:=(h.iff 0).1 Rch.refl
 obtain ⟨y,hy,h1⟩:=(h.iff 1).1 (Rch.step (x:=0) Rch.refl (by simp))
 obtain rfl:x=0:=by omega
 obtain rfl:y=1:=by omega
 have hu:=h.up
 have hl:=h.lt
 match ls,hx,hy,hu,hl with
 | [a],hx,hy,_,_=>simp at hx hy;omega
 | [a,b],_,_,_,_=>rfl
 | a::b::c::r,_,_,hu,hl =>
  exfalso
  simp only [List.pairwise_cons,List.mem_cons] at hu
  have h1:=hu.1 b (.inl rfl)
  have h2:=hu.2.1 c (.inl rfl)
  have h3:=hl c (by simp)
  omega
theorem From_two (w:World) (a:Option Addr) (cap:Nat) (hP:PrR w a 1 cap [(1,0)]) :
  Calls Tryz.prog 19 #[.slice a 1 cap,.int .i64 2,.int .i64 0] w fun e w'=>∃ gg c,e=.returned (.tuple #[.slice (some ⟨gg,0,none⟩) 2 c,.int .i64 0])∧Below w.heap.size w w' :=
 (From_yes w a 1 cap [(1,0)] hP (by decide) 2 0 (by decide)).mono fun e w' ⟨gg,c,ls,he,_,hr,hb⟩=>⟨gg,c,by rw [he,rc_two hr],hb⟩
theorem fl_two:FlIs (Ch.ref false 1 (.leaf 1 0)).ty (Ch.ref false 2 (.leaf 1 0)).ty [(1,2)] 0 :=
 .inr ⟨.ref false 1 (.leaf 1 0),.ref false 2 (.leaf 1 0),rfl,rfl,⟨⟨by omega,.inl ⟨.inl rfl,rfl⟩⟩,by decide⟩,⟨⟨by omega,.inl ⟨.inl rfl,rfl⟩⟩,by decide⟩,.inr ⟨by decide,by decide,rfl⟩⟩
theorem eql_one (w:World):(binOp .eql 36 (.agg #[.int .i64 1,.int .i64 0]) (.agg #[.int .i64 1,.int .i64 0])).run Tryz.prog w=.ok (.bool true) w:=eql_pr 1 0 1 0 w
abbrev rr2:Obj:=.cells #[.int .i64 0,.slice none 0 0,.int .i64 0,.slice none 0 0] 48
theorem z2_new (W:World):Z2 (W.alloc rr2) W.heap.size:=by
 have h:=At.new W rr2
 have hl:=h.lt
 exact ⟨hl,cell_of_row _ _ _ _ _ _ h,cell_of_row _ _ _ _ _ _ h,cell_of_row _ _ _ _ _ _ h,cell_of_row _ _ _ _ _ _ h⟩
theorem awake_true (w:World):Calls Tryz.prog 8 #[] w fun e w'=>e=.returned (.bool true)∧Below w.heap.size w w':=by
 have C0:=jH (hand_any w)
 go_enter Tryz.func8,Tryz.ntmps8
 go_wp2_with (first
  | (go_at_call 24;refine C0.out.mono ?_;rintro e w1 ⟨bu,bl,br,bn,bp,bq,rfl,hh,hb⟩;have HB1:=jH (belA (o:=uU bu) hb);have HH1:=jH (hh.bel (belA (Below.refl w1.heap.size w1) (o:=uU bu)));have HU1:=jH (At.new w1 (uU bu));obtain ⟨x0,x1,x2⟩:=HU1.out.un;have C1:=jH (Of_hand HH1.out);clear hh hb C0)
  | (go_at_call 9;refine C1.out.mono ?_;rintro e w2 ⟨v,rfl,ho,hb⟩;obtain ⟨a,cap,rfl,hp⟩:=PrR.own (n:=0) (l:=[(1,0)]) ho;have HP2:=jH hp;have HB2:=jH (jB HB1.out hb);have HU2:=jH (HU1.out.below hb);have C2:=jH (At_hand (HH1.out.bel hb));clear ho hp hb C1 x0 x1 x2;obtain ⟨x0,x1,x2⟩:=HU2.out.un)
  | (go_at_call 12;refine C2.out.mono ?_;rintro e w3 ⟨v,rfl,ho,hb⟩;obtain ⟨a3,cap3,rfl,-⟩:=PrR.own (n:=0) (l:=[(1,0)]) ho;have HP3:=jH (HP2.out.bel hb);have HB3:=jH (jB HB2.out hb);have C3:=jH (m0_any w3 1 (by decide) (by decide));clear ho hb C2 x0 x1 x2)
  | (go_at_call 25;with_reducible refine C3.out.mono ?_;rintro e w4 ⟨b4,rfl,ht,hb⟩;have HP4:=jH (HP3.out.bel hb);have HB4:=jH (jB HB3.out hb);have HT4:=jH ht;have C4:=jH (m0_any w4 2 (by decide) (by decide));clear ht hb C3)
  | (go_at_call 25;refine C4.out.mono ?_;rintro e w5 ⟨b5,rfl,ht,hb⟩;have HP5:=jH (HP4.out.bel hb);have HB5:=jH (jB HB4.out hb);have HT5:=jH ht;have HT45:=jH (HT4.out.bel hb);have C5:=jH (Flows_row _ _ _ _ fl_two _ _ w5 HT45.out HT5.out);clear ht hb C4)
  | (go_at_call 15;refine C5.out.mono ?_;rintro e w6 ⟨a6,cap6,rfl,-,hb⟩;have HP6:=jH (HP5.out.bel hb);have HB6:=jH (jB HB5.out hb);have C6:=jH (From_two w6 a cap HP6.out);clear hb C5)
  | (go_at_call 19;refine C6.out.mono ?_;rintro e w7 ⟨gg,c7,rfl,hb⟩;have HP7:=jH (HP6.out.bel hb);have HB7:=jH (jB HB6.out hb);have C7:=jH (fun cap2=>Closed_z (w7.alloc rr2) a cap w7.heap.size cap2 (HP7.out.bel (belA bR)) (z2_new w7));clear hb C6)
  | (go_at_call 17;refine (C7.out _).mono ?_;rintro e w8 ⟨rfl,hb⟩;have HB8:=jH (jB (belA HB7.out) hb);obtain ⟨g,off,ea,hg,c0,c1⟩:=((HP7.out.bel (belA bR)).bel hb).nth (i:=0) (p:=(1,0)) rfl;have ea2:a=some ⟨g,off,none⟩:=ea;subst ea2;simp only [Nat.zero_mul,Nat.add_zero] at c0 c1;have heq:=eql_one;clear hb C7 ea))
 go_ret
 exact ⟨rfl,HB8.out⟩
theorem flows_big1 (t u:Ty) (f g:Fv) (w:World) (h:TyAt w f t) (hf:FitC 60 t false):Calls Tryz.prog 5 #[f.v,g.v] w fun e w'=>e=.returned (.bool true)∧Below w.heap.size w w':=by
 have HB2:=jH (belA (belA (Below.refl w.heap.size w) (o:=f.o)) (o:=g.o))
 have HA1:Hid (At ((w.alloc f.o).alloc g.o) w.heap.size f.o):=jH ((At.new _ _).alloc _)
 have C10:=jH (hf f _ (h.bel HB2.out))
 obtain ⟨fk,fm,fr,fs,fa,fn,fc⟩:=f
 obtain ⟨gk,gm,gr,gs,ga,gn,gc⟩:=g
 clear h hf
 go_enter Tryz.func5,Tryz.ntmps5
 go_wp2_with (first
  | (go_at_call 14;refine C10.out.mono ?_;rintro e w1 ⟨rfl,hb⟩;have HB3:=jH (jB HB2.out hb);clear hb C10)
  | (go_at_call 8;refine (awake_true _).mono ?_;rintro e w2 ⟨rfl,hb⟩;have HB4:=jH (jB HB3.out hb);clear hb))
 go_ret
 exact ⟨rfl,HB4.out⟩
theorem flows_big2 (t u:Ty) (f g:Fv) (w:World) (h:TyAt w f t) (h':TyAt w g u) (hf:FitC 60 t true) (hg:FitC 60 u false):Calls Tryz.prog 5 #[f.v,g.v] w fun e w'=>e=.returned (.bool true)∧Below w.heap.size w w':=by
 have HB2:=jH (belA (belA (Below.refl w.heap.size w) (o:=f.o)) (o:=g.o))
 have HA2:Hid (At ((w.alloc f.o).alloc g.o) (w.heap.size+1) g.o):=jH (at_snd _ _ _)
 have C10:=jH (hf f _ (h.bel HB2.out))
 have C2:=jH (fun (V:World) (hV:Below w.heap.size w V)=>hg g V (h'.bel hV))
 obtain ⟨fk,fm,fr,fs,fa,fn,fc⟩:=f
 obtain ⟨gk,gm,gr,gs,ga,gn,gc⟩:=g
 clear h h' hf hg
 go_enter Tryz.func5,Tryz.ntmps5
 go_wp2_with (go_at_call 14;refine C10.out.mono ?_;rintro e w1 ⟨rfl,hb⟩;have HB3:=jH (jB HB2.out hb);obtain ⟨-,q0,q1,q2,q3,q4⟩:=(HA2.out.below hb).ty;have C20:=jH (C2.out _ HB3.out);clear hb C10)
 go_wp2_with (first
  | (go_at_call 14;refine C20.out.mono ?_;rintro e w2 ⟨rfl,hb⟩;have HB4:=jH (jB HB3.out hb);clear hb C20 q0 q1 q2 q3 q4)
  | (go_at_call 8;refine (awake_true _).mono ?_;rintro e w3 ⟨rfl,hb⟩;have HB5:=jH (jB HB4.out hb);clear hb))
 go_ret
 exact ⟨rfl,HB5.out⟩
theorem flows_walk (t u:Ty) (f g:Fv) (w:World) (h:TyAt w f t) (h':TyAt w g u):Calls Tryz.prog 5 #[f.v,g.v] w fun e w'=>e=.returned (.bool true)∧Below w.heap.size w w':=by
 obtain ⟨b,hF⟩:=fits_ex 60 60 rfl (by decide) t
 obtain ⟨b',hG⟩:=fits_ex 60 60 rfl (by decide) u
 cases b with
 | false=>exact flows_big1 t u f g w h hF
 | true =>
  cases b' with
  | false=>exact flows_big2 t u f g w h h' hF hG
  | true=>exact flows_fit awake_true t u f g w h h' hF hG
theorem outliveFlows_holds:Rows.OutliveFlowsCardSaid:=outliveFlows_card flows_walk
#print axioms outliveFlows_holds
end Go.Proofs.YtmjenlogbkbgnaaGreatDoor
