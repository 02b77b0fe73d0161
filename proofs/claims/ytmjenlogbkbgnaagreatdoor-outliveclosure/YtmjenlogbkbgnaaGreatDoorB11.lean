import Derived.Test.YtmjenlogbkbgnaaGreatDoorB10
namespace Go.Proofs.YtmjenlogbkbgnaaGreatDoor
open Go.RowKit Go.Shelf
set_option linter.unusedVariables false
set_option linter.unusedSimpArgs false
set_option maxRecDepth 100000
set_option maxHeartbeats 8000000
structure WV (w V:World) (x:Pt) (y:Gy):Prop where
 a3:At V w.heap.size x.o
 a4:At V (w.heap.size+1) y.o
 bel:Below w.heap.size w V
theorem WV.start (w:World) (x:Pt) (y:Gy):WV w ((w.alloc x.o).alloc y.o) x y:=⟨(At.new _ _).alloc _,at_snd _ _ _,belA (belA bR)⟩
theorem WV.s4 {w V V':World} {x:Pt} {y y':Gy} (h:WV w V x y) (hA:At V' (w.heap.size+1) y'.o) (hb:But (w.heap.size+1) V V'):WV w V' x y' :=
 ⟨h.a3.grown hb (by simp),hA,belBut h.bel hb (by omega) h.bel.size⟩
theorem WV.aft {w V V':World} {x:Pt} {y:Gy} (h:WV w V x y) (hb:Below V.heap.size V V'):WV w V' x y:=⟨h.a3.below hb,h.a4.below hb,jB h.bel hb⟩
def GwPost (R:Option (Ch × List Int)) (w0:World) (e:Ending):Prop:=match R with
 | some x=>∃ f':Fv,e=.returned (.tuple #[Gy.v ⟨f',byRef x.2,byShr x.2⟩,.bool true])∧TyAt w0 f' x.1.ty
 | none=>∃ y:Gy,e=.returned (.tuple #[y.v,.bool false])
theorem byRef_snoc (gs:List Int) (g:Int):byRef (gs++[g])=(byRef gs || decide (2≤g)):=by simp [byRef]
theorem byShr_snoc (gs:List Int) (g:Int):byShr (gs++[g])=(byShr gs || decide (g=3)):=by simp [byShr]
structure Scs (w:World) (b:Nat) (a:Option Addr) (n cap:Nat) (la:Option Addr) (ln lcap:Nat):Prop where
 lt:b<w.heap.size
 c21:w.cell? ⟨b,21,none⟩=some (.slice a n cap)
 c28:w.cell? ⟨b,28,none⟩=some (.slice la ln lcap)
theorem Scs.bel {w w':World} {b n cap ln lcap:Nat} {a la:Option Addr} (h:Scs w b a n cap la ln lcap) (hb:Below w.heap.size w w'):Scs w' b a n cap la ln lcap :=
 ⟨Nat.lt_of_lt_of_le h.lt hb.size,(hb.cell (p:=⟨b,21,none⟩) h.lt).trans h.c21,(hb.cell (p:=⟨b,28,none⟩) h.lt).trans h.c28⟩
theorem wayG_any {w0 w:World} (hB0:Below w0.heap.size w0 w) {a la:Option Addr} {n cap ln lcap:Nat} {fc:Nat→List Ch} {cl:List Ch} (hS:SF w0 a n cap fc) (hL:LF w0 la ln lcap n cl) (b:Nat) (hb:Scs w b a n cap la ln lcap) {x:Pt} {p:List Int} (hP:PAt w x p) (R:Option (Ch × List Int)) (hR:R=wayP fc cl x.l p) :
  Calls Tryz.prog 193 #[.pointer (some ⟨b,0,none⟩),x.v] w fun e w'=>GwPost R w0 e∧Below w.heap.size w w':=by
 have HW:=jH (WV.start w x zG)
 obtain ⟨l,pa,m,pcap⟩:=x
 have hm:m=p.length:=hP.row.len
 have hln:ln=cl.length:=by have:=hL.at_.len;rw [List.length_map] at this;exact this
 show Calls Tryz.prog 193 #[.pointer (some ⟨b,0,none⟩),plV l pa m pcap] w _
 have HSc:=jH hb
 obtain ⟨hbl,b21,b28⟩:=hb
 by_cases hbad:l<0∨(ln:Int)≤l∨8<m
 ·have hRn:R=none:=by
   rw [hR]
   unfold wayP
   show (if 0≤l∧p.length≤8 then (cl[l.toNat]?).bind fun c=>wayC fc c p else none)=none
   split
   ·rename_i h
    rw [List.getElem?_eq_none (by omega)]
    rfl
   ·rfl
  subst hRn
  clear hR hS hL hP hm hln
  by_cases h1:l<0
  ·clear hbad
   go_enter Tryz.func193,Tryz.ntmps193
   go_wp2_with ((with_reducible show wpList _ _ _ (Oper.mk none (Op.store 246 _ _) _ _ _ none::_) _ _);refine wpl_storeG (w.heap.size+1) zG zG HW.out.a4 rfl rfl ?_;intro HFw hA9 hB9;have HF:=jH (HW.out.s4 hA9 hB9);clear hA9 hB9)
   exact bodyPost_ret (results_g2 (g:=zG) Tryz.results193 rfl rfl HF.out.a4) rfl ⟨⟨zG,rfl⟩,HF.out.bel⟩
  ·by_cases h2:(ln:Int)≤l
   ·clear hbad
    go_enter Tryz.func193,Tryz.ntmps193
    go_wp2_with ((with_reducible show wpList _ _ _ (Oper.mk none (Op.store 246 _ _) _ _ _ none::_) _ _);refine wpl_storeG (w.heap.size+1) zG zG HW.out.a4 rfl rfl ?_;intro HFw hA9 hB9;have HF:=jH (HW.out.s4 hA9 hB9);clear hA9 hB9)
    exact bodyPost_ret (results_g2 (g:=zG) Tryz.results193 rfl rfl HF.out.a4) rfl ⟨⟨zG,rfl⟩,HF.out.bel⟩
   ·have h3:(8:Int)<(m:Int):=by omega
    clear hbad
    go_enter Tryz.func193,Tryz.ntmps193
    go_wp2_with ((with_reducible show wpList _ _ _ (Oper.mk none (Op.store 246 _ _) _ _ _ none::_) _ _);refine wpl_storeG (w.heap.size+1) zG zG HW.out.a4 rfl rfl ?_;intro HFw hA9 hB9;have HF:=jH (HW.out.s4 hA9 hB9);clear hA9 hB9)
    exact bodyPost_ret (results_g2 (g:=zG) Tryz.results193 rfl rfl HF.out.a4) rfl ⟨⟨zG,rfl⟩,HF.out.bel⟩
 ·obtain ⟨j,rfl⟩:∃ j:Nat,l=(j:Int):=⟨l.toNat,by omega⟩
  obtain ⟨c0,hc0⟩:∃ c,cl[j]?=some c:=⟨_,List.getElem?_eq_getElem (by omega)⟩
  have hR2:R=(wayC fc c0 (p.drop 0)).map (fun z=>(z.1,[]++z.2)):=by
   rw [hR]
   unfold wayP
   show (if 0≤(j:Int)∧p.length≤8 then (cl[((j:Int)).toNat]?).bind fun c=>wayC fc c p else none)=_
   rw [if_pos ⟨by omega,by omega⟩,Int.toNat_natCast,hc0,List.drop_zero]
   simp
  have hty0:(cl.map Ch.ty)[j]?=some c0.ty:=by rw [List.getElem?_map,hc0];rfl
  obtain ⟨g,off,V,ea,hc5,hT⟩:=hL.at_.one hty0
  subst ea
  have HR2:=jH hR2
  have HP:=jH hP
  have HM:=jH hm
  have HTT:=jH hT
  have HOK:=jH (hL.ok c0 (List.mem_of_getElem? hc0))
  obtain ⟨hg,p0,p1,p2,p3,p4⟩:=hc5.below hB0
  have CS:Hid (∀ (W:World) (c:Ch) (f:Fv) (br bs:Bool) (s:Int),Below w.heap.size w W→c.ok n→TyAt w0 f c.ty→Calls Tryz.prog 214 #[.pointer (some ⟨b,0,none⟩),Gy.v ⟨f,br,bs⟩,.int .i64 s] W fun e w'=>StepPost (stepC fc c s) w0 br bs e∧Below W.heap.size W w'):=fun W c f br bs s hW hc hT=>stepOn_any (jB hB0 hW) hS b ⟨(HSc.out.bel hW).lt,(HSc.out.bel hW).c21⟩ c f br bs hc hT s _ rfl
  have SO:Hid (∀ {c d:Ch} {g s:Int},c.ok n→stepC fc c s=some (d,g)→d.ok n):=fun hc hs=>(stepC_ok hS hc hs).1
  have j0:(0:Int)≤(j:Int):=by omega
  have j1:(j:Int)<(ln:Int):=by omega
  have j2:¬ (ln:Int)≤(j:Int):=by omega
  have j3:¬ (8:Int)<(m:Int):=by omega
  have j4:¬ (j:Int)<0:=by omega
  have m8:(m:Int)≤8:=by omega
  clear hc5 hR hR2 hS hL hP hm hln hT hty0 hc0 hbad hB0
  go_enter Tryz.func193,Tryz.ntmps193
  go_upto_region 5 with ((with_reducible show wpList _ _ _ (Oper.mk none (Op.store 43 _ _) _ _ _ none::_) _ _);refine wpl_storeGT (w.heap.size+1) zG V HW.out.a4 rfl rfl ?_;intro HVw hA9 hB9;have HV:=jH (HW.out.s4 hA9 hB9);clear hA9 hB9;obtain ⟨y0,y1⟩:=HV.out.a3.pl)
  clear HW p0 p1 p2 p3 p4 hg
  go_wp2_with fail
  clear y0 y1
  go_loopw [40] (fun v V'=>∃ (i:Nat) (f:Fv) (c:Ch) (gs:List Int),v=.int .i64 i∧i≤m∧c.ok n∧R=(wayC fc c (p.drop i)).map (fun z=>(z.1,gs++z.2))∧TyAt w0 f c.ty∧WV w V' ⟨(j:Int),pa,m,pcap⟩ ⟨f,byRef gs,byShr gs⟩) (fun v _=>m - (intOf v).toNat)
  case atStart=>exact ⟨0,V,c0,[],rfl,Nat.zero_le _,HOK.out,HR2.out,HTT.out,HV.out⟩
  case round =>
   clear HV HOK HR2 HTT
   obtain ⟨i,f,c,gs,rfl,hi,hok,hRR,hT,hW⟩:=hrel
   have HW:=jH hW
   have HRR:=jH hRR
   have HC:=jH hok
   have HT:=jH hT
   obtain ⟨kk,mm,rr,ss,aa,nn,cc⟩:=f
   obtain ⟨br,hbr⟩:∃ x,x=byRef gs:=⟨_,rfl⟩
   obtain ⟨bs,hbs⟩:∃ x,x=byShr gs:=⟨_,rfl⟩
   rw [← hbr,← hbs] at HW
   have HBR:=jH hbr
   have HBS:=jH hbs
   clear hW hRR hok hT hbr hbs
   obtain ⟨⟨-,x0,x1,x2,x3,x4⟩,x5,x6⟩:=HW.out.a4.gy
   simp only [Nat.zero_add] at x0 x1 x2 x3 x4
   by_cases hlt:i<m
   ·obtain ⟨s,hs⟩:∃ s,p[i]?=some s:=⟨_,List.getElem?_eq_getElem (by have:=HM.out;omega)⟩
    obtain ⟨g9,off9,ea,hg9,hc9,s0,s1⟩:=(HP.out.row.bel HW.out.bel).nth hs
    have ea2:pa=some ⟨g9,off9,none⟩:=ea
    subst ea2
    have st:=wayC_step (fc:=fc) (c:=c) hs gs
    rw [← HRR.out] at st
    have ST:=jH st
    have i0:(0:Int)≤(i:Int):=by omega
    have i1:(i:Int)<(m:Int):=by omega
    have HLT:=jH hlt
    clear st hs hi ea hlt
    cases hq:stepC fc c s with
    | none =>
     have hRn:R=none:=by have:=ST.out;rw [hq] at this;exact this
     subst hRn
     have CC:Hid (∀ W,Below w.heap.size w W→Calls Tryz.prog 214 #[.pointer (some ⟨b,0,none⟩),gyV kk mm rr ss aa nn cc br bs,.int .i64 s] W fun e w'=>(∃ y:Gy,e=.returned (.tuple #[y.v,.bool false]))∧Below W.heap.size W w'):=fun W hW=>by
      have:=CS.out W c ⟨kk,mm,rr,ss,aa,nn,cc⟩ br bs s hW HC.out HT.out
      rw [hq] at this
      exact this
     clear CS hq ST HRR
     go_wp2_with (first
      | (go_at_call 214;refine (CC.out _ HW.out.bel).mono ?_;rintro e w1 ⟨⟨y,rfl⟩,hb1⟩;have H1:=jH (HW.out.aft hb1);clear hb1 CC)
      | ((with_reducible show wpList _ _ _ (Oper.mk none (Op.store 246 _ _) _ _ _ none::_) _ _);refine wpl_storeG (w.heap.size+1) ⟨⟨kk,mm,rr,ss,aa,nn,cc⟩,br,bs⟩ y H1.out.a4 rfl rfl ?_;intro H2w hA9 hB9;have H2:=jH (H1.out.s4 hA9 hB9);clear hA9 hB9;clear H1)
      | ((with_reducible show wpList _ _ _ (Oper.mk none (Op.store 246 _ _) _ _ _ none::_) _ _);refine wpl_storeG (w.heap.size+1) y zG H2.out.a4 rfl rfl ?_;intro HFw hA9 hB9;have HF:=jH (H2.out.s4 hA9 hB9);clear hA9 hB9;clear H2))
     exact bodyPost_ret (results_g2 (g:=zG) Tryz.results193 rfl rfl HF.out.a4) rfl ⟨⟨zG,rfl⟩,HF.out.bel⟩
    | some z =>
     obtain ⟨d,g1⟩:=z
     have CC:Hid (∀ W,Below w.heap.size w W→Calls Tryz.prog 214 #[.pointer (some ⟨b,0,none⟩),gyV kk mm rr ss aa nn cc br bs,.int .i64 s] W fun e w'=>(∃ f':Fv,e=.returned (.tuple #[Gy.v ⟨f',br || decide (2≤g1),bs || decide (g1=3)⟩,.bool true])∧TyAt w0 f' d.ty)∧Below W.heap.size W w'):=fun W hW=>by
      have:=CS.out W c ⟨kk,mm,rr,ss,aa,nn,cc⟩ br bs s hW HC.out HT.out
      rw [hq] at this
      exact this
     have hRs:R=(wayC fc d (p.drop (i+1))).map (fun z=>(z.1,(gs++[g1])++z.2)):=by have:=ST.out;rw [hq] at this;exact this
     have HRs:=jH hRs
     have HD:=jH (SO.out HC.out hq)
     obtain ⟨br',hbr'⟩:∃ x,x=(br || decide (2≤g1)):=⟨_,rfl⟩
     obtain ⟨bs',hbs'⟩:∃ x,x=(bs || decide (g1=3)):=⟨_,rfl⟩
     rw [← hbr',← hbs'] at CC
     have HBr':Hid (br'=byRef (gs++[g1])):=jH (by rw [hbr',HBR.out,byRef_snoc])
     have HBs':Hid (bs'=byShr (gs++[g1])):=jH (by rw [hbs',HBS.out,byShr_snoc])
     clear CS hq ST HRR hRs hbr' hbs' HBR HBS
     go_wp2_with (first
      | (go_at_call 214;refine (CC.out _ HW.out.bel).mono ?_;rintro e w1 ⟨⟨f',rfl,hf'⟩,hb1⟩;have H1:=jH (HW.out.aft hb1);have HF':=jH hf';clear hb1 CC hf')
      | ((with_reducible show wpList _ _ _ (Oper.mk none (Op.store 246 _ _) _ _ _ none::_) _ _);refine wpl_storeG (w.heap.size+1) ⟨⟨kk,mm,rr,ss,aa,nn,cc⟩,br,bs⟩ ⟨f',br',bs'⟩ H1.out.a4 rfl rfl ?_;intro H2w hA9 hB9;have H2:=jH (H1.out.s4 hA9 hB9);clear hA9 hB9;clear H1))
     refine ⟨⟨i+1,f',d,gs++[g1],rfl,HLT.out,HD.out,HRs.out,HF'.out,?_⟩,?_⟩
     ·rw [← HBr'.out,← HBs'.out]
      exact H2.out
     ·show m - ((i:Int)+1).toNat<m - (i:Int).toNat
      have:=HLT.out
      omega
   ·obtain rfl:i=m:=by omega
    have lt:¬ (i:Int)<(i:Int):=by omega
    have hRs:R=some (c,gs):=by
     have:=HRR.out
     rw [List.drop_eq_nil_of_le (by have:=HM.out;omega)] at this
     simpa [wayC] using this
    subst hRs
    clear HRR hlt hi CS SO
    go_wp2_with ((with_reducible show wpList _ _ _ (Oper.mk none (Op.store 246 _ _) _ _ _ none::_) _ _);refine wpl_storeG (w.heap.size+1) ⟨⟨kk,mm,rr,ss,aa,nn,cc⟩,br,bs⟩ ⟨⟨kk,mm,rr,ss,aa,nn,cc⟩,br,bs⟩ HW.out.a4 rfl rfl ?_;intro HFw hA9 hB9;have HF:=jH (HW.out.s4 hA9 hB9);clear hA9 hB9)
    exact bodyPost_ret (results_g2 (g:=⟨⟨kk,mm,rr,ss,aa,nn,cc⟩,br,bs⟩) Tryz.results193 rfl rfl HF.out.a4) rfl ⟨⟨⟨kk,mm,rr,ss,aa,nn,cc⟩,by rw [HBR.out,HBS.out];rfl,HT.out⟩,HF.out.bel⟩
end Go.Proofs.YtmjenlogbkbgnaaGreatDoor
