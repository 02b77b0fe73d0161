/-
  OutliveRows (P15.2, P15.3) of the landed program: for every two types, every constraints and rows, every count and region, with the library's table laid as the program's text lays it, the law returns true and leaves what came in as it was.
-/
import Derived.Test.YtmjenlogbkbgnaaGreatDoorC06
import Derived.Test.YtmjenlogbkbgnaaGreatDoorC07
import Derived.Test.YtmjenlogbkbgnaaGreatDoorB32
import Derived.Test.YtmjenlogbkbgnaaGreatDoorE05
import Derived.Test.YtmjenlogbkbgnaaGreatDoorE04
import Derived.Test.YtmjenlogbkbgnaaGreatDoorE07
import Derived.Test.YtmjenlogbkbgnaaGreatDoorE08
import Derived.Test.YtmjenlogbkbgnaaGreatDoorE10
import Derived.BigQuiet
namespace Go.Proofs.YtmjenlogbkbgnaaGreatDoor
open Go.RowKit Go.Shelf
set_option linter.unusedVariables false
set_option linter.unusedSimpArgs false
set_option maxRecDepth 100000
set_option maxHeartbeats 8000000
def RowP (W:World) (v:Value) (l:List (Int × Int)):Prop:=∃ a cap,v=.slice a l.length cap∧PrR W a l.length cap l
theorem RowP.bel {W W':World} {v:Value} {l:List (Int × Int)} (h:RowP W v l) (k:Below W.heap.size W W'):RowP W' v l:=by
 obtain ⟨a,cap,e,h⟩:=h
 exact ⟨a,cap,e,h.bel k⟩
theorem Flows_row (t u:Ty) (L:List (Int × Int)) (er:Int) (hF:FlIs t u L er) (f f':Fv) (w:World) (h:TyAt w f t) (h':TyAt w f' u) :
  Calls Tryz.prog 15 #[f.v,f'.v] w fun e w'=>∃ a cap,e=.returned (.tuple #[.slice a L.length cap,.int .i64 er])∧PrR w' a L.length cap L∧Below w.heap.size w w' :=
 (Flows_any t u L er hF f f' w h h').mono fun e w' ⟨v,h1,h2,h3⟩=>by
  obtain ⟨a,cap,rfl,h4⟩:=PrR.own (n:=0) h2
  exact ⟨a,cap,h1,h4,h3⟩
theorem eql_pr (x y r s:Int) (w:World):(binOp .eql 36 (prV (x,y)) (prV (r,s))).run Tryz.prog w=.ok (.bool (decide ((x,y)=(r,s)))) w:=by
 simp only [binOp,Op.equal]
 rw [show Op.maxDepth=(Op.maxDepth - 2)+1+1 from rfl]
 simp [Op.equalIn,run_underlying Tryz.underlying36,run_underlying Tryz.underlying3,go_sem]
 by_cases h1:x=r <;> by_cases h2:y=s <;> simp [h1,h2]
theorem rc_two {ls:List Nat} (h:RcF [(1,0)] 2 0 ls):ls.length=2:=by
 obtain ⟨x,hx,h0⟩:=(h.iff 0).1 Rch.refl
 obtain ⟨y,hy,h1⟩:=(h.iff 1).1 (Rch.step (x:=0) Rch.refl (by simp))
 obtain rfl:x=0:=by omega
 obtain rfl:y=1:=by omega
 have hu:=h.up
 have hl:=h.lt
 match ls,hx,hy,hu,hl with
 | [a],hx,hy,_,_=>simp at hx hy;omega
 | [a,b],_,_,_,_=>rfl
 | a::b::c::r,_,_,hu,hl =>
  exfalso
  simp only [List.pairwise_cons,List.mem_cons] at hu
  have h1:=hu.1 b (.inl rfl)
  have h2:=hu.2.1 c (.inl rfl)
  have h3:=hl c (by simp)
  omega
theorem From_two (w:World) (a:Option Addr) (cap:Nat) (hP:PrR w a 1 cap [(1,0)]) :
  Calls Tryz.prog 19 #[.slice a 1 cap,.int .i64 2,.int .i64 0] w fun e w'=>∃ gg c,e=.returned (.tuple #[.slice (some ⟨gg,0,none⟩) 2 c,.int .i64 0])∧Below w.heap.size w w' :=
 (From_yes w a 1 cap [(1,0)] hP (by decide) 2 0 (by decide)).mono fun e w' ⟨gg,c,ls,he,_,hr,hb⟩=>⟨gg,c,by rw [he,rc_two hr],hb⟩
theorem fl_two:FlIs (Ch.ref false 1 (.leaf 1 0)).ty (Ch.ref false 2 (.leaf 1 0)).ty [(1,2)] 0 :=
 .inr ⟨.ref false 1 (.leaf 1 0),.ref false 2 (.leaf 1 0),rfl,rfl,⟨⟨by omega,.inl ⟨.inl rfl,rfl⟩⟩,by decide⟩,⟨⟨by omega,.inl ⟨.inl rfl,rfl⟩⟩,by decide⟩,.inr ⟨by decide,by decide,rfl⟩⟩
theorem eql_one (w:World):(binOp .eql 36 (.agg #[.int .i64 1,.int .i64 0]) (.agg #[.int .i64 1,.int .i64 0])).run Tryz.prog w=.ok (.bool true) w:=eql_pr 1 0 1 0 w
abbrev rr2:Obj:=.cells #[.int .i64 0,.slice none 0 0,.int .i64 0,.slice none 0 0] 48
theorem z2_new (W:World):Z2 (W.alloc rr2) W.heap.size:=by
 have h:=At.new W rr2
 have hl:=h.lt
 exact ⟨hl,cell_of_row _ _ _ _ _ _ h,cell_of_row _ _ _ _ _ _ h,cell_of_row _ _ _ _ _ _ h,cell_of_row _ _ _ _ _ _ h⟩
theorem awake_true (w:World):Calls Tryz.prog 8 #[] w fun e w'=>e=.returned (.bool true)∧Below w.heap.size w w':=by
 have C0:=jH (hand_any w)
 go_enter Tryz.func8,Tryz.ntmps8
 go_wp2_with (first
  | (go_at_call 24;refine C0.out.mono ?_;rintro e w1 ⟨bu,bl,br,bn,bp,bq,rfl,hh,hb⟩;have HB1:=jH (belA (o:=uU bu) hb);have HH1:=jH (hh.bel (belA (Below.refl w1.heap.size w1) (o:=uU bu)));have HU1:=jH (At.new w1 (uU bu));obtain ⟨x0,x1,x2⟩:=HU1.out.un;have C1:=jH (Of_hand HH1.out);clear hh hb C0)
  | (go_at_call 9;refine C1.out.mono ?_;rintro e w2 ⟨v,rfl,ho,hb⟩;obtain ⟨a,cap,rfl,hp⟩:=PrR.own (n:=0) (l:=[(1,0)]) ho;have HP2:=jH hp;have HB2:=jH (jB HB1.out hb);have HU2:=jH (HU1.out.below hb);have C2:=jH (At_hand (HH1.out.bel hb));clear ho hp hb C1 x0 x1 x2;obtain ⟨x0,x1,x2⟩:=HU2.out.un)
  | (go_at_call 12;refine C2.out.mono ?_;rintro e w3 ⟨v,rfl,ho,hb⟩;obtain ⟨a3,cap3,rfl,-⟩:=PrR.own (n:=0) (l:=[(1,0)]) ho;have HP3:=jH (HP2.out.bel hb);have HB3:=jH (jB HB2.out hb);have C3:=jH (m0_any w3 1 (by decide) (by decide));clear ho hb C2 x0 x1 x2)
  | (go_at_call 25;with_reducible refine C3.out.mono ?_;rintro e w4 ⟨b4,rfl,ht,hb⟩;have HP4:=jH (HP3.out.bel hb);have HB4:=jH (jB HB3.out hb);have HT4:=jH ht;have C4:=jH (m0_any w4 2 (by decide) (by decide));clear ht hb C3)
  | (go_at_call 25;refine C4.out.mono ?_;rintro e w5 ⟨b5,rfl,ht,hb⟩;have HP5:=jH (HP4.out.bel hb);have HB5:=jH (jB HB4.out hb);have HT5:=jH ht;have HT45:=jH (HT4.out.bel hb);have C5:=jH (Flows_row _ _ _ _ fl_two _ _ w5 HT45.out HT5.out);clear ht hb C4)
  | (go_at_call 15;refine C5.out.mono ?_;rintro e w6 ⟨a6,cap6,rfl,-,hb⟩;have HP6:=jH (HP5.out.bel hb);have HB6:=jH (jB HB5.out hb);have C6:=jH (From_two w6 a cap HP6.out);clear hb C5)
  | (go_at_call 19;refine C6.out.mono ?_;rintro e w7 ⟨gg,c7,rfl,hb⟩;have HP7:=jH (HP6.out.bel hb);have HB7:=jH (jB HB6.out hb);have C7:=jH (fun cap2=>Closed_z (w7.alloc rr2) a cap w7.heap.size cap2 (HP7.out.bel (belA bR)) (z2_new w7));clear hb C6)
  | (go_at_call 17;refine (C7.out _).mono ?_;rintro e w8 ⟨rfl,hb⟩;have HB8:=jH (jB (belA HB7.out) hb);obtain ⟨g,off,ea,hg,c0,c1⟩:=((HP7.out.bel (belA bR)).bel hb).nth (i:=0) (p:=(1,0)) rfl;have ea2:a=some ⟨g,off,none⟩:=ea;subst ea2;simp only [Nat.zero_mul,Nat.add_zero] at c0 c1;have heq:=eql_one;clear hb C7 ea))
 go_ret
 exact ⟨rfl,HB8.out⟩
theorem PrR.nil_ (W:World):PrR W none 0 0 []:=⟨rfl,by simp,fun h=>absurd rfl h⟩
theorem rFlows_any (t u:Ty) (L:List (Int × Int)) (er:Int) (hF:FlIs t u L er) (f f':Fv) (w:World) (h:TyAt w f t) (h':TyAt w f' u) :
  Calls Tryz.prog 16 #[f.v,f'.v] w fun e w'=>∃ a cap,e=.returned (.tuple #[.slice a L.length cap,.int .i64 er])∧PrR w' a L.length cap L∧Below w.heap.size w w':=by
 have I1:=jH (fun (W:World) (hW:Below w.heap.size w W)=>is_any t f W (h.bel hW))
 have I2:=jH (fun (W:World) (hW:Below w.heap.size w W)=>is_any u f' W (h'.bel hW))
 have HH:=jH h
 have HH':=jH h'
 have HB2:=jH (belA (belA (Below.refl w.heap.size w) (o:=f.o)) (o:=f'.o))
 have HA1:Hid (At ((w.alloc f.o).alloc f'.o) w.heap.size f.o):=jH ((At.new _ _).alloc _)
 have HA2:Hid (At ((w.alloc f.o).alloc f'.o) (w.heap.size+1) f'.o):=jH (at_snd _ _ _)
 rcases hF with ⟨hn,rfl,rfl⟩|⟨c,d,rfl,rfl,hc,hd,hal⟩
 ·clear h h'
  cases h1:isT t with
  | false =>
   rw [h1] at I1
   obtain ⟨fk,fm,fr,fs,fa,fn,fc⟩:=f
   obtain ⟨gk,gm,gr,gs,ga,gn,gc⟩:=f'
   clear hn h1
   go_enter Tryz.func16,Tryz.ntmps16
   go_wp2_with (go_at_call 38;refine (I1.out _ HB2.out).mono ?_;rintro e w1 ⟨rfl,hb⟩;have HB3:=jH (jB HB2.out hb);clear hb)
   go_ret2
   exact ⟨_,_,rfl,PrR.nil_ _,HB3.out⟩
  | true =>
   have h2:isT u=false:=by rcases hn with h|h;(rw [h1] at h;cases h);exact h
   rw [h1] at I1
   rw [h2] at I2
   obtain ⟨fk,fm,fr,fs,fa,fn,fc⟩:=f
   obtain ⟨gk,gm,gr,gs,ga,gn,gc⟩:=f'
   clear hn h1 h2
   have st1:Stg 1:=.mk 1
   go_enter Tryz.func16,Tryz.ntmps16
   go_wp2_with (first
    | (have _s:=st1;clear st1 _s;go_at_call 38;refine (I1.out _ HB2.out).mono ?_;rintro e w1 ⟨rfl,hb⟩;have HB3:=jH (jB HB2.out hb);have st2:Stg 2:=.mk 2;obtain ⟨-,q0,q1,q2,q3,q4⟩:=(HA2.out.below hb).ty;simp only [Nat.zero_add] at q0 q1 q2 q3 q4;clear hb)
    | (have _s:=st2;clear st2 _s;go_at_call 38;refine (I2.out _ HB3.out).mono ?_;rintro e w2 ⟨rfl,hb⟩;have HB4:=jH (jB HB3.out hb);clear hb))
   go_ret2
   exact ⟨_,_,rfl,PrR.nil_ _,HB4.out⟩
 ·have CA:=jH (fun (W:World) (hW:Below w.heap.size w W)=>rAlike_yes c d f f' W (h.bel hW) (h'.bel hW) hc hd)
  rw [hc.is] at I1
  rw [hd.is] at I2
  rcases hal with ⟨ha,rfl,rfl⟩|⟨ha,hL,rfl⟩
  ·rw [ha] at CA
   obtain ⟨fk,fm,fr,fs,fa,fn,fc⟩:=f
   obtain ⟨gk,gm,gr,gs,ga,gn,gc⟩:=f'
   clear h h' ha hc hd
   have st1:Stg 1:=.mk 1
   go_enter Tryz.func16,Tryz.ntmps16
   go_wp2_with (first
    | (have _s:=st1;clear st1 _s;go_at_call 38;refine (I1.out _ HB2.out).mono ?_;rintro e w1 ⟨rfl,hb⟩;have HB3:=jH (jB HB2.out hb);have HD3:=jH hb;have st2:Stg 2:=.mk 2;obtain ⟨-,q0,q1,q2,q3,q4⟩:=(HA2.out.below hb).ty;simp only [Nat.zero_add] at q0 q1 q2 q3 q4;clear hb)
    | (have _s:=st2;clear st2 _s;go_at_call 38;refine (I2.out _ HB3.out).mono ?_;rintro e w2 ⟨rfl,hb⟩;have HB4:=jH (jB HB3.out hb);have HD4:=jH (jB HD3.out hb);clear hb q0 q1 q2 q3 q4;obtain ⟨-,p0,p1,p2,p3,p4⟩:=(HA1.out.below HD4.out).ty;obtain ⟨-,q0,q1,q2,q3,q4⟩:=(HA2.out.below HD4.out).ty;simp only [Nat.zero_add] at p0 p1 p2 p3 p4 q0 q1 q2 q3 q4)
    | (go_at_call 39;refine (CA.out _ HB4.out).mono ?_;rintro e w3 ⟨rfl,hb⟩;have HB5:=jH (jB HB4.out hb);clear hb))
   go_ret2
   exact ⟨_,_,rfl,PrR.nil_ _,HB5.out⟩
  ·rw [ha] at CA
   have CF:=jH (fun (W:World) (hW:Below w.heap.size w W)=>rfl_any c d false hc.ok hc.deep ha f f' W (h.bel hW) (h'.bel hW))
   rw [← hL] at CF
   obtain ⟨fk,fm,fr,fs,fa,fn,fc⟩:=f
   obtain ⟨gk,gm,gr,gs,ga,gn,gc⟩:=f'
   clear h h' ha hc hd hL
   have st1:Stg 1:=.mk 1
   go_enter Tryz.func16,Tryz.ntmps16
   go_wp2_with (first
    | (have _s:=st1;clear st1 _s;go_at_call 38;refine (I1.out _ HB2.out).mono ?_;rintro e w1 ⟨rfl,hb⟩;have HB3:=jH (jB HB2.out hb);have HD3:=jH hb;have st2:Stg 2:=.mk 2;obtain ⟨-,q0,q1,q2,q3,q4⟩:=(HA2.out.below hb).ty;simp only [Nat.zero_add] at q0 q1 q2 q3 q4;clear hb)
    | (have _s:=st2;clear st2 _s;go_at_call 38;refine (I2.out _ HB3.out).mono ?_;rintro e w2 ⟨rfl,hb⟩;have HB4:=jH (jB HB3.out hb);have HD4:=jH (jB HD3.out hb);clear hb q0 q1 q2 q3 q4;obtain ⟨-,p0,p1,p2,p3,p4⟩:=(HA1.out.below HD4.out).ty;obtain ⟨-,q0,q1,q2,q3,q4⟩:=(HA2.out.below HD4.out).ty;simp only [Nat.zero_add] at p0 p1 p2 p3 p4 q0 q1 q2 q3 q4)
    | (go_at_call 39;refine (CA.out _ HB4.out).mono ?_;rintro e w3 ⟨rfl,hb⟩;have HB5:=jH (jB HB4.out hb);have HD5:=jH (jB HD4.out hb);clear hb p0 p1 p2 p3 p4 q0 q1 q2 q3 q4;obtain ⟨-,p0,p1,p2,p3,p4⟩:=(HA1.out.below HD5.out).ty;obtain ⟨-,q0,q1,q2,q3,q4⟩:=(HA2.out.below HD5.out).ty;simp only [Nat.zero_add] at p0 p1 p2 p3 p4 q0 q1 q2 q3 q4)
    | (go_at_call 40;refine (CF.out _ HB5.out).mono ?_;rintro e w4 ⟨⟨v,rfl,hv⟩,hb⟩;obtain ⟨a4,c4',ev,hPR⟩:=PrR.own (n:=0) hv;subst ev;have HPR:=jH hPR;have HB6:=jH (jB HB5.out hb);clear hb hv hPR))
   go_ret2
   exact ⟨_,_,rfl,HPR.out,HB6.out⟩
theorem neq_pr (x y:Int) (w:World):(binOp .neq 36 (prV (x,y)) (prV (x,y))).run Tryz.prog w=.ok (.bool false) w:=by
 simp only [binOp,Op.equal]
 rw [show Op.maxDepth=(Op.maxDepth - 2)+1+1 from rfl]
 simp [Op.equalIn,run_underlying Tryz.underlying36,run_underlying Tryz.underlying3,go_sem]
theorem same_yes (w:World) (a:Option Addr) (m cap:Nat) (b:Option Addr) (cap2:Nat) (l:List (Int × Int)) (hm:m≤100000) (hP:PrR w a m cap l) (hQ:PrR w b m cap2 l):Calls Tryz.prog 11 #[.slice a m cap,.slice b m cap2] w fun e w'=>e=.returned (.bool true)∧Below w.heap.size w w':=by
 have HP:=jH hP
 have HQ:=jH hQ
 have HM:=jH hP.len
 have m1:(m:Int)≤100000:=by omega
 clear hP hQ hm
 go_enter Tryz.func11,Tryz.ntmps11
 go_wp2_with fail
 go_loopw [5] (fun v V=>∃ i:Nat,i≤m∧v=.int .i64 (i:Int)∧Below w.heap.size w V) (fun v _=>m - (intOf v).toNat)
 case atStart=>exact ⟨0,Nat.zero_le _,rfl,Below.refl _ _⟩
 case round =>
  obtain ⟨i,hi,rfl,hB⟩:=hrel
  have HB:=jH hB
  clear hB
  by_cases hlt:i<m
  ·obtain ⟨⟨x,y⟩,hp⟩:∃ p,l[i]?=some p:=⟨_,List.getElem?_eq_getElem (by have:=HM.out;omega)⟩
   obtain ⟨g,off,ea,hg,c0,c1⟩:=(HP.out.bel HB.out).nth hp
   obtain ⟨g2,off2,ea2,hg2,d0,d1⟩:=(HQ.out.bel HB.out).nth hp
   subst ea
   subst ea2
   simp only at c0 c1 d0 d1
   have i0:(0:Int)≤(i:Int):=by omega
   have i1:(i:Int)<(m:Int):=by omega
   have HLT:=jH hlt
   have hne:∀ W,(binOp .neq 36 (.agg #[.int .i64 x,.int .i64 y]) (.agg #[.int .i64 x,.int .i64 y])).run Tryz.prog W=.ok (.bool false) W:=fun W=>neq_pr x y W
   clear hlt hp hi
   go_upto_region 6 with fail
   go_quiet (fail)
   go_wp2_with fail
   exact ⟨⟨i+1,HLT.out,rfl,belN HB.out _⟩,by have:=HLT.out;show m - ((i:Int)+1).toNat<m - (i:Int).toNat;omega⟩
  ·obtain rfl:i=m:=by omega
   have lt:¬ (i:Int)<(i:Int):=by omega
   clear hlt hi
   go_wp2_with fail
   go_ret
   exact ⟨rfl,HB.out⟩
theorem ClR.form {l:List (Int × Int)} {R:List Rw} {e:Ending} (h:ClR l R e):∃ (i p:Int) (is:Bool) (er:Int),e=.returned (.tuple #[.int .i64 i,.int .i64 p,.bool is,.int .i64 er]):=by
 unfold ClR at h
 split at h
 ·obtain ⟨i,p,is,rfl,-⟩:=h
  exact ⟨i,p,is,0,rfl⟩
 ·exact ⟨0,0,false,2,h⟩
theorem ClR.unique {l:List (Int × Int)} {R:List Rw} {e e':Ending} (h:ClR l R e) (h':ClR l R e'):e=e':=by
 unfold ClR at h h'
 by_cases hc:goodR R=true∧l.any (outB R.length)=false
 ·rw [if_pos hc] at h h'
  obtain ⟨i,p,is,rfl,h1⟩:=h
  obtain ⟨i',p',is',rfl,h2⟩:=h'
  obtain ⟨rfl,rfl,rfl⟩:=h1.unique h2
  rfl
 ·rw [if_neg hc] at h h'
  rw [h,h']
theorem Closed_r (w:World) (a:Option Addr) (m cap:Nat) (l:List (Int × Int)) (hP:PrR w a m cap l) (b:Option Addr) (n cap2:Nat) (R:List Rw) (hR:RsR w b n cap2 R) (hT:TabZ w):Calls Tryz.prog 17 #[.slice a m cap,.slice b n cap2] w fun e w'=>ClR l R e∧Below w.heap.size w w':=by
 have hn:=hR.len
 cases hg:goodR R with
 | false=>exact (Closed_bad1 w a m cap b n cap2 R hR hg).mono fun e w' ⟨h1,h2⟩=>⟨by unfold ClR;rw [if_neg (by rw [hg];simp)];exact h1,h2⟩
 | true =>
  cases ho:l.any (outB n) with
  | true=>exact (Closed_bad2 w a m cap l hP b n cap2 R hR hg ho).mono fun e w' ⟨h1,h2⟩=>⟨by unfold ClR;rw [if_neg (by rw [hn] at ho;rw [ho];simp)];exact h1,h2⟩
  | false=>exact (Closed_x w a m cap l hP b n cap2 R hR hT hg ho).mono fun e w' ⟨h1,h2⟩=>⟨by unfold ClR;rw [if_pos ⟨hg,by rw [hn] at ho;exact ho⟩];exact h1,h2⟩
theorem up_eq:∀ (a b:List Nat),a.Pairwise (·<·)→b.Pairwise (·<·)→(∀ x,x∈a↔x∈b)→a=b
 | [],[],_,_,_=>rfl
 | [],y::b,_,_,h=>by have:=(h y).2 (by simp);simp at this
 | x::a,[],_,_,h=>by have:=(h x).1 (by simp);simp at this
 | x::a,y::b,ha,hb,h=>by
  rw [List.pairwise_cons] at ha hb
  have hxy:x=y:=by
   rcases Nat.lt_trichotomy x y with k|k|k
   ·have:=(h x).1 (by simp)
    rcases List.mem_cons.1 this with e|e
    ·exact e
    ·have:=hb.1 x e;omega
   ·exact k
   ·have:=(h y).2 (by simp)
    rcases List.mem_cons.1 this with e|e
    ·exact e.symm
    ·have:=ha.1 y e;omega
  subst hxy
  rw [up_eq a b ha.2 hb.2 (fun z=>by
   have hz:=h z
   simp only [List.mem_cons] at hz
   constructor
   ·intro k
    rcases hz.1 (.inr k) with e|e
    ·subst e;have:=ha.1 z k;omega
    ·exact e
   ·intro k
    rcases hz.2 (.inr k) with e|e
    ·subst e;have:=hb.1 z k;omega
    ·exact e)]
theorem RcF.unique {l:List (Int × Int)} {n f:Nat} {a b:List Nat} (h:RcF l n f a) (k:RcF l n f b):a=b :=
 up_eq a b h.up k.up fun x=>by
  constructor
  ·intro hx
   obtain ⟨y,hy,e⟩:=(k.iff (x:Int)).1 ((h.iff (x:Int)).2 ⟨x,hx,rfl⟩)
   obtain rfl:x=y:=by omega
   exact hy
  ·intro hx
   obtain ⟨y,hy,e⟩:=(h.iff (x:Int)).1 ((k.iff (x:Int)).2 ⟨x,hx,rfl⟩)
   obtain rfl:x=y:=by omega
   exact hy
theorem rFrom_no (w:World) (a:Option Addr) (m cap:Nat) (l:List (Int × Int)) (hP:PrR w a m cap l) (hm:m≤100000) (c r:Int) (hb:frB l c r=false) :
  Calls Tryz.prog 20 #[.slice a m cap,.int .i64 c,.int .i64 r] w fun e w'=>e=.returned (.tuple #[.slice none 0 0,.int .i64 2])∧Below w.heap.size w w':=by
 cases hx:(decide (0≤c) && decide (c≤512) && blwB c r) with
 | false=>exact rFrom_no1 w a m cap c r hx
 | true =>
  have hy:l.any (outB c)=true:=by
   unfold frB at hb
   rw [hx] at hb
   simpa using hb
  simp only [Bool.and_eq_true,decide_eq_true_eq,blwB] at hx
  exact rFrom_no2 w a m cap l hP hm c r hx.1.1 hx.1.2 hx.2.1 hx.2.2 hy
theorem rows_fit (AW:∀ W:World,Calls Tryz.prog 8 #[] W fun e w'=>e=.returned (.bool true)∧Below W.heap.size W w') (t u:Ty) (f g:Fv) (w:World) (h:TyAt w f t) (h':TyAt w g u) (hf:FitC 60 t true) (hg:FitC 60 u true)
  (a:Option Addr) (m cap:Nat) (l:List (Int × Int)) (b:Option Addr) (n cap2:Nat) (R:List Rw) (c q:Int) (hm:m≤600) (hn:n≤600) (hP:PrR w a m cap l) (hR:RsR w b n cap2 R) (hT:TabZ w) :
  Calls Tryz.prog 4 #[f.v,g.v,.slice a m cap,.slice b n cap2,.int .i64 c,.int .i64 q] w fun e w'=>e=.returned (.bool true)∧Below w.heap.size w w':=by
 obtain ⟨L,er,hL⟩:=fl_ex t u
 have hLl:L.length≤1000:=by
  rcases hL with ⟨-,rfl,-⟩|⟨c,d,-,-,hc,hd,hh⟩
  ·simp
  ·rcases hh with ⟨-,rfl,-⟩|⟨-,rfl,-⟩
   ·simp
   ·have:=asksL_len false c d;have:=hc.2;omega
 have HAW:=jH AW
 have HB2:=jH (belA (belA (Below.refl w.heap.size w) (o:=f.o)) (o:=g.o))
 have HA1:Hid (At ((w.alloc f.o).alloc g.o) w.heap.size f.o):=jH ((At.new _ _).alloc _)
 have HA2:Hid (At ((w.alloc f.o).alloc g.o) (w.heap.size+1) g.o):=jH (at_snd _ _ _)
 have C1:=jH (fun (V:World) (hV:Below w.heap.size w V)=>hf f V (h.bel hV))
 have C2:=jH (fun (V:World) (hV:Below w.heap.size w V)=>hg g V (h'.bel hV))
 have C3:=jH (fun (V:World) (hV:Below w.heap.size w V)=>Flows_row t u L er hL f g V (h.bel hV) (h'.bel hV))
 have C4:=jH (fun (V:World) (hV:Below w.heap.size w V)=>rFlows_any t u L er hL f g V (h.bel hV) (h'.bel hV))
 have HP:=jH hP
 have HR:=jH hR
 have HT:=jH hT
 have HN:=jH hR.len
 have HM:=jH hP.len
 have HLL:=jH hLl
 have m1:(m:Int)≤600:=by omega
 have n1:(n:Int)≤600:=by omega
 have m2:¬ (600:Int)<(m:Int):=by omega
 have n2:¬ (600:Int)<(n:Int):=by omega
 obtain ⟨fk,fm,fr,fs,fa,fn,fc⟩:=f
 obtain ⟨gk,gm,gr,gs,ga,gn,gc⟩:=g
 clear h h' hf hg hL hLl hP hR hT AW hm hn
 have st1:Stg 1:=.mk 1
 go_enter Tryz.func4,Tryz.ntmps4
 go_wp2_with (first
  | (have _s:=st1;clear st1 _s;go_at_call 14;refine (C1.out _ HB2.out).mono ?_;rintro e w1 ⟨rfl,hb⟩;have HB3:=jH (jB HB2.out hb);have HD3:=jH hb;have st2:Stg 2:=.mk 2;obtain ⟨-,q0,q1,q2,q3,q4⟩:=(HA2.out.below hb).ty;simp only [Nat.zero_add] at q0 q1 q2 q3 q4;clear hb)
  | (have _s:=st2;clear st2 _s;go_at_call 14;refine (C2.out _ HB3.out).mono ?_;rintro e w2 ⟨rfl,hb⟩;have HB4:=jH (jB HB3.out hb);have HD4:=jH (jB HD3.out hb);clear hb q0 q1 q2 q3 q4))
 go_loopw [13] (fun v V=>∃ i:Nat,i≤n∧v=.int .i64 (i:Int)∧(∀ (j:Nat) (r:Rw),j<i→R[j]?=some r→r.zs.length≤100)∧V=w2) (fun v _=>n - (intOf v).toNat)
 case atStart=>exact ⟨0,Nat.zero_le _,rfl,fun j r h=>by omega,rfl⟩
 case round =>
  obtain ⟨i,hi,rfl,hno,hV⟩:=hrel
  replace hV:=hV.symm
  subst hV
  have HNO:=jH hno
  clear hno
  by_cases hlt:i<n
  ·obtain ⟨r,hr⟩:∃ r,R[i]?=some r:=⟨_,List.getElem?_eq_getElem (by have:=HN.out;omega)⟩
   obtain ⟨gb,ob,eb,hgb,hcb⟩:=(HR.out.bel HB4.out).cells (by intro hh;subst hh;simp at hr)
   obtain ⟨c0,c1⟩:=hcb i r hr
   subst eb
   have k0:(0:Int)≤(i:Int):=by omega
   have k1:(i:Int)<(n:Int):=by omega
   have HLT:=jH hlt
   have HRI:=jH hr
   clear hcb hr hlt hi
   by_cases hz:100<r.zs.length
   ·have z0:(100:Int)<(r.zs.length:Int):=by omega
    clear hz
    as_aux_lemma =>
     go_wp2_with (go_at_call 8;refine (HAW.out _).mono ?_;rintro e w3 ⟨rfl,hb⟩;have HB5:=jH (jB HB4.out hb);clear hb)
     go_ret
     exact ⟨rfl,HB5.out⟩
   ·have z0:¬ (100:Int)<(r.zs.length:Int):=by omega
    have HZ:=jH hz
    clear hz
    as_aux_lemma =>
     go_wp2_with fail
     go_roundw
     case rel =>
      refine ⟨i+1,HLT.out,by go_num,fun j r' hj hr'=>?_,trivial⟩
      rcases Nat.lt_or_ge j i with h|h
      ·exact HNO.out j r' h hr'
      ·obtain rfl:j=i:=by omega
       rw [HRI.out] at hr';cases hr'
       have:=HZ.out;omega
     case measure=>have:=HLT.out;simp [intOf];omega
  ·obtain rfl:i=n:=by omega
   have lt:¬ (i:Int)<(i:Int):=by omega
   have HW:Hid (∀ r∈R,r.zs.length≤100):=jH fun r hr=>by
    obtain ⟨j,hj⟩:=List.getElem?_of_mem hr
    exact HNO.out j r (by have:=(List.getElem?_eq_some_iff.1 hj).1;have:=HN.out;omega) hj
   clear hlt hi HNO
   obtain ⟨-,p0,p1,p2,p3,p4⟩:=(HA1.out.below HD4.out).ty
   obtain ⟨-,q0,q1,q2,q3,q4⟩:=(HA2.out.below HD4.out).ty
   simp only [Nat.zero_add] at p0 p1 p2 p3 p4 q0 q1 q2 q3 q4
   have e0:(er != er)=false:=by simp
   go_upto_region 16 with (first
    | (go_at_call 15;refine (C3.out _ HB4.out).mono ?_;rintro e w3 ⟨a3,cap3,rfl,hp,hb⟩;have HB5:=jH (jB HB4.out hb);have HD5:=jH (jB HD4.out hb);have HP3:=jH hp;clear hb hp p0 p1 p2 p3 p4 q0 q1 q2 q3 q4;obtain ⟨-,p0,p1,p2,p3,p4⟩:=(HA1.out.below HD5.out).ty;obtain ⟨-,q0,q1,q2,q3,q4⟩:=(HA2.out.below HD5.out).ty;simp only [Nat.zero_add] at p0 p1 p2 p3 p4 q0 q1 q2 q3 q4)
    | (go_at_call 16;refine (C4.out _ HB5.out).mono ?_;rintro e w4 ⟨a4,cap4,rfl,hp,hb⟩;have HB6:=jH (jB HB5.out hb);have CS:=jH (same_yes w4 a3 L.length cap3 a4 cap4 L (by have:=HLL.out;omega) (HP3.out.bel hb) hp);clear hb hp p0 p1 p2 p3 p4 q0 q1 q2 q3 q4)
    | (go_at_call 11;refine CS.out.mono ?_;rintro e w5 ⟨rfl,hb⟩;have HB7:=jH (jB HB6.out hb);have CC:=jH (Closed_r w5 a m cap l (HP.out.bel HB7.out) b i cap2 R (HR.out.bel HB7.out) (HT.out.bel HB7.out));clear hb CS)
    | (go_at_call 17;refine CC.out.mono ?_;rintro e w6 ⟨hc,hb⟩;obtain ⟨ci,cp,cis,cer,he⟩:=hc.form;subst he;have HCR:=jH hc;have HB8:=jH (jB HB7.out hb);have CD:=jH (rClosed_any w6 a m cap l (HP.out.bel HB8.out) (by omega) b i cap2 R (HR.out.bel HB8.out) (by omega) HW.out);clear hb hc CC)
    | (go_at_call 18;refine CD.out.mono ?_;rintro e w7 ⟨hc,hb⟩;obtain he:=hc.unique HCR.out;subst he;have HB9:=jH (jB HB8.out hb);have x1:(ci != ci)=false:=(by simp);have x2:(cp != cp)=false:=(by simp);have x3:(cer != cer)=false:=(by simp);have x4:(cis != cis)=false:=(by simp);clear hb hc CD))
   clear C1 C2 C3 C4 e0 x1 x2 x3 x4 HD3 HD4 HD5 HP3 HCR
   cases hfr:frB l c q with
   | false =>
    have C5:=jH (fun (V:World) (hV:Below w.heap.size w V)=>From_no V a m cap l (HP.out.bel hV) c q hfr)
    have C6:=jH (fun (V:World) (hV:Below w.heap.size w V)=>rFrom_no V a m cap l (HP.out.bel hV) (by omega) c q hfr)
    clear hfr
    as_aux_lemma =>
     go_wp2_with (first
      | (go_at_call 19;refine (C5.out _ HB9.out).mono ?_;rintro e w8 ⟨rfl,hb⟩;have HB10:=jH (jB HB9.out hb);clear hb)
      | (go_at_call 20;refine (C6.out _ HB10.out).mono ?_;rintro e w9 ⟨rfl,hb⟩;have HB11:=jH (jB HB10.out hb);clear hb))
     go_loopw [26] (fun v V=>v=.int .i64 0∧V=w9) (fun v _=>0)
     case atStart=>exact ⟨rfl,rfl⟩
     case round =>
      obtain ⟨rfl,hV⟩:=hrel
      replace hV:=hV.symm
      subst hV
      go_wp2_with (go_at_call 8;refine (HAW.out _).mono ?_;rintro e w10 ⟨rfl,hb⟩;have HB12:=jH (jB HB11.out hb);clear hb)
      go_ret
      exact ⟨rfl,HB12.out⟩
   | true =>
    obtain ⟨nn,ff,rfl,rfl⟩:∃ nn ff:Nat,c=(nn:Int)∧q=(ff:Int):=⟨c.toNat,q.toNat,by
     unfold frB at hfr
     simp [blwB] at hfr
     omega⟩
    have C5:=jH (fun (V:World) (hV:Below w.heap.size w V)=>From_yes V a m cap l (HP.out.bel hV) (by omega) nn ff hfr)
    have C6:=jH (fun (V:World) (hV:Below w.heap.size w V)=>rFrom_yes V a m cap l (HP.out.bel hV) (by omega) nn ff hfr)
    have H512:Hid (nn≤512):=jH (by
     unfold frB at hfr
     simp [blwB] at hfr
     omega)
    clear hfr
    go_wp2_with (first
     | (go_at_call 19;refine (C5.out _ HB9.out).mono ?_;rintro e w8 ⟨gg,cc,ls,rfl,hI,hR,hb⟩;have HB10:=jH (jB HB9.out hb);have HI:=jH hI;have HRC:=jH hR;clear hb hI hR)
     | (go_at_call 20;refine (C6.out _ HB10.out).mono ?_;rintro e w9 ⟨ga2,cc2,ls2,rfl,hI,hR,hb⟩;obtain he:=hR.unique HRC.out;subst he;have HB11:=jH (jB HB10.out hb);have HI1:=jH (HI.out.bel hb);have HI2:=jH hI;clear hb hI hR HI))
    have nl:(ls2.length:Int)≤512:=by
     have h1:=nodup_le (n:=nn) ls2 (HRC.out.up.imp fun h=>Nat.ne_of_lt h) HRC.out.lt
     have:=H512.out
     omega
    go_loopw [26] (fun v V=>∃ k:Nat,k≤ls2.length∧v=.int .i64 (k:Int)∧Below w9.heap.size w9 V) (fun v _=>ls2.length - (intOf v).toNat)
    case atStart=>exact ⟨0,Nat.zero_le _,rfl,Below.refl _ _⟩
    case round =>
     obtain ⟨k,hk,rfl,hB⟩:=hrel
     have HB:=jH hB
     clear hB
     by_cases hlt:k<ls2.length
     ·obtain ⟨x,hx⟩:∃ x,ls2[k]?=some x:=⟨_,List.getElem?_eq_getElem hlt⟩
      have hx2:(ls2.map Int.ofNat)[k]?=some (x:Int):=by rw [List.getElem?_map,hx];rfl
      obtain ⟨g1,o1,ea1,hg1,hc1,-⟩:=(HI1.out.bel HB.out).nth hx2
      obtain ⟨g2,o2,ea2,hg2,hc2,-⟩:=(HI2.out.bel HB.out).nth hx2
      simp only [Option.some.injEq,Addr.mk.injEq,and_true] at ea1
      obtain ⟨rfl,rfl⟩:=ea1
      subst ea2
      rw [Nat.zero_add] at hc1
      have k0:(0:Int)≤(k:Int):=by omega
      have k1:(k:Int)<(ls2.length:Int):=by omega
      have hxx:((x:Int) != (x:Int))=false:=by simp
      have HLT:=jH hlt
      clear hlt hk hx hx2 hg1 hg2
      as_aux_lemma =>
       go_upto_region 23 with fail
       go_quiet (fail)
       go_wp2_with fail
       exact ⟨⟨k+1,HLT.out,rfl,belN HB.out _⟩,by have:=HLT.out;show ls2.length - ((k:Int)+1).toNat<ls2.length - (k:Int).toNat;omega⟩
     ·obtain rfl:k=ls2.length:=by omega
      have lt2:¬ (ls2.length:Int)<(ls2.length:Int):=by omega
      have HB12:=jH (jB HB11.out HB.out)
      clear hlt hk
      as_aux_lemma =>
       go_wp2_with (go_at_call 8;refine (HAW.out _).mono ?_;rintro e w10 ⟨rfl,hb⟩;have HB13:=jH (jB HB12.out hb);clear hb)
       go_ret
       exact ⟨rfl,HB13.out⟩
theorem rows_big1 (AW:∀ W:World,Calls Tryz.prog 8 #[] W fun e w'=>e=.returned (.bool true)∧Below W.heap.size W w') (t u:Ty) (f g:Fv) (w:World) (h:TyAt w f t) (hf:FitC 60 t false) (a b:Option Addr) (m cap n cap2:Nat) (c q:Int):Calls Tryz.prog 4 #[f.v,g.v,.slice a m cap,.slice b n cap2,.int .i64 c,.int .i64 q] w fun e w'=>e=.returned (.bool true)∧Below w.heap.size w w':=by
 have HB2:=jH (belA (belA (Below.refl w.heap.size w) (o:=f.o)) (o:=g.o))
 have C10:=jH (hf f _ (h.bel HB2.out))
 obtain ⟨fk,fm,fr,fs,fa,fn,fc⟩:=f
 obtain ⟨gk,gm,gr,gs,ga,gn,gc⟩:=g
 clear h hf
 go_enter Tryz.func4,Tryz.ntmps4
 go_wp2_with (first
  | (go_at_call 14;refine C10.out.mono ?_;rintro e w1 ⟨rfl,hb⟩;have HB3:=jH (jB HB2.out hb);clear hb C10)
  | (go_at_call 8;refine (AW _).mono ?_;rintro e w2 ⟨rfl,hb⟩;have HB4:=jH (jB HB3.out hb);clear hb))
 go_ret
 exact ⟨rfl,HB4.out⟩
theorem rows_big2 (AW:∀ W:World,Calls Tryz.prog 8 #[] W fun e w'=>e=.returned (.bool true)∧Below W.heap.size W w') (t u:Ty) (f g:Fv) (w:World) (h:TyAt w f t) (h':TyAt w g u) (hf:FitC 60 t true) (bb:Bool) (hg:FitC 60 u bb) (a b:Option Addr) (m cap n cap2:Nat) (c q:Int) (hbig:bb=false∨600<m∨600<n):Calls Tryz.prog 4 #[f.v,g.v,.slice a m cap,.slice b n cap2,.int .i64 c,.int .i64 q] w fun e w'=>e=.returned (.bool true)∧Below w.heap.size w w':=by
 have HB2:=jH (belA (belA (Below.refl w.heap.size w) (o:=f.o)) (o:=g.o))
 have HA2:Hid (At ((w.alloc f.o).alloc g.o) (w.heap.size+1) g.o):=jH (at_snd _ _ _)
 have C1:=jH (fun (V:World) (hV:Below w.heap.size w V)=>hf f V (h.bel hV))
 have C2:=jH (fun (V:World) (hV:Below w.heap.size w V)=>hg g V (h'.bel hV))
 obtain ⟨fk,fm,fr,fs,fa,fn,fc⟩:=f
 obtain ⟨gk,gm,gr,gs,ga,gn,gc⟩:=g
 clear h h' hf hg
 have st1:Stg 1:=.mk 1
 cases bb with
 | false =>
  clear hbig
  go_enter Tryz.func4,Tryz.ntmps4
  go_wp2_with (first
   | (have _s:=st1;clear st1 _s;go_at_call 14;refine (C1.out _ HB2.out).mono ?_;rintro e w1 ⟨rfl,hb⟩;have HB3:=jH (jB HB2.out hb);have st2:Stg 2:=.mk 2;obtain ⟨-,q0,q1,q2,q3,q4⟩:=(HA2.out.below hb).ty;simp only [Nat.zero_add] at q0 q1 q2 q3 q4;clear hb)
   | (have _s:=st2;clear st2 _s;go_at_call 14;refine (C2.out _ HB3.out).mono ?_;rintro e w2 ⟨rfl,hb⟩;have HB4:=jH (jB HB3.out hb);clear hb q0 q1 q2 q3 q4)
   | (go_at_call 8;refine (AW _).mono ?_;rintro e w3 ⟨rfl,hb⟩;have HB5:=jH (jB HB4.out hb);clear hb))
  go_ret
  exact ⟨rfl,HB5.out⟩
 | true =>
  by_cases h1:600<m
  ·have g1:(600:Int)<(m:Int):=by omega
   clear hbig h1
   go_enter Tryz.func4,Tryz.ntmps4
   go_wp2_with (first
    | (have _s:=st1;clear st1 _s;go_at_call 14;refine (C1.out _ HB2.out).mono ?_;rintro e w1 ⟨rfl,hb⟩;have HB3:=jH (jB HB2.out hb);have st2:Stg 2:=.mk 2;obtain ⟨-,q0,q1,q2,q3,q4⟩:=(HA2.out.below hb).ty;simp only [Nat.zero_add] at q0 q1 q2 q3 q4;clear hb)
    | (have _s:=st2;clear st2 _s;go_at_call 14;refine (C2.out _ HB3.out).mono ?_;rintro e w2 ⟨rfl,hb⟩;have HB4:=jH (jB HB3.out hb);clear hb q0 q1 q2 q3 q4)
    | (go_at_call 8;refine (AW _).mono ?_;rintro e w3 ⟨rfl,hb⟩;have HB5:=jH (jB HB4.out hb);clear hb))
   go_ret
   exact ⟨rfl,HB5.out⟩
  ·have g1:¬ (600:Int)<(m:Int):=by omega
   have g2:(600:Int)<(n:Int):=by
    rcases hbig with h|h|h
    ·cases h
    ·omega
    ·omega
   clear hbig h1
   go_enter Tryz.func4,Tryz.ntmps4
   go_wp2_with (first
    | (have _s:=st1;clear st1 _s;go_at_call 14;refine (C1.out _ HB2.out).mono ?_;rintro e w1 ⟨rfl,hb⟩;have HB3:=jH (jB HB2.out hb);have st2:Stg 2:=.mk 2;obtain ⟨-,q0,q1,q2,q3,q4⟩:=(HA2.out.below hb).ty;simp only [Nat.zero_add] at q0 q1 q2 q3 q4;clear hb)
    | (have _s:=st2;clear st2 _s;go_at_call 14;refine (C2.out _ HB3.out).mono ?_;rintro e w2 ⟨rfl,hb⟩;have HB4:=jH (jB HB3.out hb);clear hb q0 q1 q2 q3 q4)
    | (go_at_call 8;refine (AW _).mono ?_;rintro e w3 ⟨rfl,hb⟩;have HB5:=jH (jB HB4.out hb);clear hb))
   go_ret
   exact ⟨rfl,HB5.out⟩
theorem rows_walk:RWalk:=fun t u f g a m cap l b n cap2 R c q w ht hu hP hR hT=>by
 obtain ⟨x,hF⟩:=fits_ex 60 60 rfl (by decide) t
 obtain ⟨y,hG⟩:=fits_ex 60 60 rfl (by decide) u
 cases x with
 | false=>exact rows_big1 awake_true t u f g w ht hF a b m cap n cap2 c q
 | true =>
  by_cases hb:y=false∨600<m∨600<n
  ·exact rows_big2 awake_true t u f g w ht hu hF y hG a b m cap n cap2 c q hb
  ·have hy:y=true:=by cases y <;> simp_all
   subst hy
   exact rows_fit awake_true t u f g w ht hu hF hG a m cap l b n cap2 R c q (by omega) (by omega) hP hR hT
theorem outliveRows_holds:Rows.OutliveRowsCardSaid:=outliveRows_card rows_walk
#print axioms outliveRows_holds
end Go.Proofs.YtmjenlogbkbgnaaGreatDoor
