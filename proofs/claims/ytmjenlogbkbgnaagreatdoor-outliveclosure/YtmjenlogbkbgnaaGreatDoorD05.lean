import Derived.Test.YtmjenlogbkbgnaaGreatDoorD04
import Derived.BigQuiet
namespace Go.Proofs.YtmjenlogbkbgnaaGreatDoor
open Go.RowKit Go.Shelf
set_option linter.unusedVariables false
set_option linter.unusedSimpArgs false
set_option maxRecDepth 100000
set_option maxHeartbeats 8000000
structure ClIs (l:List (Int × Int)) (R:List Rw) (is:Bool) (e:Int):Prop where
 yes:is=true→goodR R=true∧l.any (outB R.length)=false∧clB l R=true
 err:is=true→e=0
theorem Closed_all (a:Option Addr) (m cap:Nat) (l:List (Int × Int)) (b:Option Addr) (n cap2:Nat) (R:List Rw) (hn:n=R.length):∃ is e,ClIs l R is e∧∀ w,PrR w a m cap l→RsR w b n cap2 R→TabZ w→Calls Tryz.prog 17 #[.slice a m cap,.slice b n cap2] w fun e' w'=>(∃ p q:Int,e'=.returned (.tuple #[.int .i64 p,.int .i64 q,.bool is,.int .i64 e]))∧Below w.heap.size w w':=by
 cases hg:goodR R with
 | false=>exact ⟨false,2,⟨fun h=>(by cases h),fun h=>(by cases h)⟩,fun w hP hR hT=>(Closed_bad1 w a m cap b n cap2 R hR hg).mono fun e w' ⟨h1,h2⟩=>⟨⟨0,0,h1⟩,h2⟩⟩
 | true =>
  cases ho:l.any (outB n) with
  | true=>exact ⟨false,2,⟨fun h=>(by cases h),fun h=>(by cases h)⟩,fun w hP hR hT=>(Closed_bad2 w a m cap l hP b n cap2 R hR hg ho).mono fun e w' ⟨h1,h2⟩=>⟨⟨0,0,h1⟩,h2⟩⟩
  | false=>exact ⟨clB l R,0,⟨fun h=>⟨hg,by rw [← hn];exact ho,h⟩,fun _=>rfl⟩,fun w hP hR hT=>Closed_ok w a m cap l hP b n cap2 R hR hT hg ho⟩
def IB (w:World) (g:Nat) (zs:List Int):Prop:=At w g (.cells (iCells zs).toArray 3 (0,0))
theorem IB.bel {w w':World} {g:Nat} {zs:List Int} (h:IB w g zs) (hb:Below w.heap.size w w'):IB w' g zs:=At.below h hb
theorem IB.cell {w:World} {g:Nat} {zs:List Int} (h:IB w g zs) {i:Nat} {z:Int} (hi:zs[i]?=some z):w.cell? ⟨g,i,none⟩=some (.int .i64 z):=by
 unfold IB At at h
 simp [World.cell?,h,iCells,hi]
theorem IB.frozen {w:World} {g:Nat} {zs:List Int} (h:IB w g zs) (i:Nat):w.frozen? ⟨g,i,none⟩=false:=frozen_of_row w g i _ 3 h
theorem IB.set {w:World} {g:Nat} {zs:List Int} (h:IB w g zs) (k:Nat) (z:Int):IB (w.setCell ⟨g,k,none⟩ (.int .i64 z)) g (zs.set k z):=by
 unfold IB At at *
 have h1:=heap_setCell_same w g k _ 3 (.int .i64 z) h
 rw [h1]
 simp [iCells,List.map_set]
theorem ib_made {w:World} {base g n:Nat} (h:w.ownsRow base 3 1 (.slice (some ⟨g,0,none⟩) n n) n (madeCells (Value.int .i64 0).cells (n*1)).toList):IB w g (List.replicate n 0):=by
 rcases h.2 with ⟨h',_⟩|⟨g',cap',cur,h',_,hg,_,_,hs,htake⟩
 ·simp at h'
 ·simp only [Value.slice.injEq,Option.some.injEq,Addr.mk.injEq,and_true,true_and] at h'
  obtain ⟨rfl,rfl⟩:=h'
  have hc:(Value.int IntKind.i64 0).cells=#[Value.int IntKind.i64 0]:=rfl
  rw [hc,toList_madeCells_one,List.take_of_length_le (by simp;omega)] at htake
  unfold IB At
  rw [hg]
  congr 2
  apply Array.toList_inj.1
  rw [htake];simp [iCells]
def mkL (n:Nat) (ls:List Nat):List Int:=(List.range n).map fun x=>if x∈ls then 1 else 0
theorem mkL_get {n:Nat} {ls:List Nat} {x:Nat} (h:x<n):(mkL n ls)[x]?=some (if x∈ls then 1 else 0):=by simp [mkL,h]
theorem mkL_nil (n:Nat):List.replicate n 0=mkL n []:=by
 apply List.ext_getElem?
 intro i
 rcases Nat.lt_or_ge i n with h|h
 ·rw [mkL_get h];simp [h]
 ·rw [List.getElem?_eq_none (by simpa using h),List.getElem?_eq_none (by simpa [mkL] using h)]
theorem mkL_on {n:Nat} {ls:List Nat} {x:Nat} (h:x<n):(mkL n ls).set x 1=mkL n (ls++[x]):=by
 apply List.ext_getElem?
 intro i
 rcases Nat.lt_or_ge i n with hi|hi
 ·rw [mkL_get hi,List.getElem?_set]
  by_cases e:x=i
  ·subst e;simp [mkL,h]
  ·rw [if_neg e,mkL_get hi]
   have e2:¬ i=x:=fun k=>e k.symm
   simp [e2]
 ·rw [List.getElem?_eq_none (by simpa [mkL] using hi),List.getElem?_eq_none (by simpa [mkL] using hi)]
theorem take_on {α:Type} {ls:List α} {i:Nat} {x:α} (h:ls[i]?=some x):ls.take (i+1)=ls.take i++[x]:=by
 obtain ⟨h1,h2⟩:=List.getElem?_eq_some_iff.1 h
 rw [← h2,List.take_succ_eq_append_getElem h1]
theorem not_before {ls:List Nat} (h:ls.Pairwise (·<·)) {i x:Nat} (hx:ls[i]?=some x):x ∉ ls.take i:=by
 intro hm
 obtain ⟨j,hj,e⟩:=List.mem_iff_getElem.1 hm
 obtain ⟨h1,h2⟩:=List.getElem?_eq_some_iff.1 hx
 simp only [List.length_take] at hj
 have:=List.pairwise_iff_getElem.1 h j i (by omega) h1 (by omega)
 rw [List.getElem_take] at e
 omega
theorem clos_big (AW:∀ W:World,Calls Tryz.prog 8 #[] W fun e w'=>e=.returned (.bool true)∧Below W.heap.size W w') (a:Option Addr) (m cap:Nat) (b:Option Addr) (n cap2:Nat) (q:Int) (h:300<m∨300<n) (w:World) :
  Calls Tryz.prog 6 #[.slice a m cap,.slice b n cap2,.int .i64 q] w fun e w'=>e=.returned (.bool true)∧Below w.heap.size w w':=by
 by_cases h1:300<m
 ·have g1:(300:Int)<(m:Int):=by omega
  clear h h1
  go_enter Tryz.func6,Tryz.ntmps6
  go_wp2_with (go_at_call 8;refine (AW _).mono ?_;rintro e w1 ⟨rfl,hb⟩)
  go_ret
  exact ⟨rfl,hb⟩
 ·have g1:¬ (300:Int)<(m:Int):=by omega
  have g2:(300:Int)<(n:Int):=by omega
  clear h h1
  go_enter Tryz.func6,Tryz.ntmps6
  go_wp2_with (go_at_call 8;refine (AW _).mono ?_;rintro e w1 ⟨rfl,hb⟩)
  go_ret
  exact ⟨rfl,hb⟩
theorem clos_main (AW:∀ W:World,Calls Tryz.prog 8 #[] W fun e w'=>e=.returned (.bool true)∧Below W.heap.size W w') (a:Option Addr) (m cap:Nat) (l:List (Int × Int)) (b:Option Addr) (n cap2:Nat) (R:List Rw) (q:Int) (hm:m≤300) (hn:n≤300) (w:World) (hP:PrR w a m cap l) (hR:RsR w b n cap2 R) (hT:TabZ w) :
  Calls Tryz.prog 6 #[.slice a m cap,.slice b n cap2,.int .i64 q] w fun e w'=>e=.returned (.bool true)∧Below w.heap.size w w':=by
 obtain ⟨is,er,hcl,hC⟩:=Closed_all a m cap l b n cap2 R hR.len
 have HAW:=jH AW
 have HP:=jH hP
 have HR:=jH hR
 have C1:=jH (hC w hP hR hT)
 have HCL:=jH hcl
 have HN:=jH hR.len
 have HM:=jH hP.len
 have g1:¬ (300:Int)<(m:Int):=by omega
 have g2:¬ (300:Int)<(n:Int):=by omega
 clear hP hR hT hC AW hcl hm hn
 go_enter Tryz.func6,Tryz.ntmps6
 go_wp2_with fail
 go_loopw [7] (fun v V=>∃ i:Nat,i≤n∧v=.int .i64 (i:Int)∧V=w) (fun v _=>n - (intOf v).toNat)
 case atStart=>exact ⟨0,Nat.zero_le _,rfl,rfl⟩
 case round =>
  obtain ⟨i,hi,rfl,hV⟩:=hrel
  replace hV:=hV.symm
  subst hV
  by_cases hlt:i<n
  ·obtain ⟨r,hr⟩:∃ r,R[i]?=some r:=⟨_,List.getElem?_eq_getElem (by have:=HN.out;omega)⟩
   obtain ⟨g,off,ea,hg,hc⟩:=HR.out.cells (by intro hh;subst hh;simp at hr)
   obtain ⟨c0,c1⟩:=hc i r hr
   subst ea
   have i0:(0:Int)≤(i:Int):=by omega
   have i1:(i:Int)<(n:Int):=by omega
   have HLT:=jH hlt
   have HI:=jH hi
   clear hc hr hlt hi
   by_cases hz:100<r.zs.length
   ·have z0:(100:Int)<(r.zs.length:Int):=by omega
    clear hz
    go_wp2_with (go_at_call 8;refine (HAW.out _).mono ?_;rintro e w1 ⟨rfl,hb⟩)
    go_ret
    exact ⟨rfl,hb⟩
   ·have z0:¬ (100:Int)<(r.zs.length:Int):=by omega
    clear hz
    go_wp2_with fail
    go_roundw
    case rel=>exact ⟨i+1,HLT.out,by go_num,trivial⟩
    case measure=>have:=HLT.out;simp [intOf];omega
  ·obtain rfl:i=n:=by omega
   have lt:¬ (i:Int)<(i:Int):=by omega
   clear hlt hi
   cases hfr:frB l (i:Int) q with
   | false =>
    have C2:=jH (fun (V:World) (hV:Below w.heap.size w V)=>From_no V a m cap l (HP.out.bel hV) i q hfr)
    clear hfr
    go_wp2_with (first
     | (go_at_call 17;refine C1.out.mono ?_;rintro e w1 ⟨⟨p1,p2,rfl⟩,hb⟩;have HB1:=jH hb;clear hb C1)
     | (go_at_call 19;refine (C2.out _ HB1.out).mono ?_;rintro e w2 ⟨rfl,hb⟩;have HB2:=jH (jB HB1.out hb);clear hb C2)
     | (go_at_call 8;refine (HAW.out _).mono ?_;rintro e w3 ⟨rfl,hb⟩;have HB3:=jH (jB HB2.out hb);clear hb))
    go_ret
    exact ⟨rfl,HB3.out⟩
   | true =>
    obtain ⟨f,rfl⟩:∃ f:Nat,q=(f:Int):=⟨q.toNat,by
     unfold frB at hfr
     simp [blwB] at hfr
     omega⟩
    have C2:=jH (fun (V:World) (hV:Below w.heap.size w V)=>From_yes V a m cap l (HP.out.bel hV) (by have:=g1;omega) i f hfr)
    have HFR:=jH hfr
    obtain ⟨i0,hi,hz0,hz1,hz2⟩:=info_parts Tryz.info3
    clear hfr
    go_wp2_with (first
     | (go_at_call 17;refine C1.out.mono ?_;rintro e w1 ⟨⟨p1,p2,rfl⟩,hb⟩;have HB1:=jH hb;clear hb C1)
     | (go_at_call 19;refine (C2.out _ HB1.out).mono ?_;rintro e w2 ⟨gf,cf,ls,rfl,hI,hR,hb⟩;have HB2:=jH (jB HB1.out hb);have HI:=jH hI;have HRC:=jH hR;clear hb C2 hI hR)
     | (at_make;refine wpList_make_full _ rfl _ _ 55 rfl w2.heap.size 3 i0 (.int .i64 0) 1 Tryz.underlying55 hi hz0 hz1 .i64 .i64 _ _ i rfl rfl rfl rfl (by rw [hz2];omega) (by unfold maxLen;omega) (Nat.le_refl _) ?_;intro w3 hown hgrow;have HG3:=jH (ib_made hown);have HB3:=jH (below_of_grown hgrow);clear hown hgrow))
    have nl:(ls.length:Int)≤300:=by
     have h1:=nodup_le (n:=i) ls (HRC.out.up.imp fun h=>Nat.ne_of_lt h) HRC.out.lt
     omega
    clear i0 hi hz0 hz1 hz2
    go_loopw [15] (fun v V=>∃ k:Nat,k≤ls.length∧v=.int .i64 (k:Int)∧IB V w2.heap.size (mkL i (ls.take k))∧Below w2.heap.size w2 V) (fun v _=>ls.length - (intOf v).toNat)
    case atStart=>exact ⟨0,Nat.zero_le _,rfl,by have:=HG3.out;rw [mkL_nil] at this;exact this,HB3.out⟩
    case round =>
     obtain ⟨k,hk,rfl,hG,hB⟩:=hrel
     have HG:=jH hG
     have HB:=jH hB
     clear hG hB HG3 HB3
     by_cases hlt:k<ls.length
     ·obtain ⟨x,hx⟩:∃ x,ls[k]?=some x:=⟨_,List.getElem?_eq_getElem hlt⟩
      have hxn:x<i:=HRC.out.lt x (List.mem_of_getElem? hx)
      obtain ⟨g,off,ea,hg,hc,-⟩:=(HI.out.bel HB.out).nth (i:=k) (x:=(x:Int)) (by rw [List.getElem?_map,hx];rfl)
      simp only [Option.some.injEq,Addr.mk.injEq,and_true] at ea
      obtain ⟨rfl,rfl⟩:=ea
      rw [Nat.zero_add] at hc
      have hz:=HG.out.cell (mkL_get (ls:=ls.take k) hxn)
      rw [if_neg (not_before HRC.out.up hx)] at hz
      have hfz:=HG.out.frozen
      have HX:=jH hx
      have HXN:=jH hxn
      have HLT:=jH hlt
      have k0:(0:Int)≤(k:Int):=by omega
      have k1:(k:Int)<(ls.length:Int):=by omega
      have x0:(0:Int)≤(x:Int):=by omega
      have x1:(x:Int)<(i:Int):=by omega
      clear hx hxn hlt hk
      go_wp2_with fail
      go_roundw
      case rel=>exact ⟨k+1,HLT.out,by go_num,by rw [take_on HX.out,← mkL_on HXN.out];exact HG.out.set x 1,HB.out.setCell (Nat.le_refl _) _⟩
      case measure=>have:=HLT.out;simp [intOf];omega
     ·obtain rfl:k=ls.length:=by omega
      have lt:¬ (ls.length:Int)<(ls.length:Int):=by omega
      have HG2:Hid (IB wr w2.heap.size (mkL i ls)):=jH (by have:=HG.out;rw [List.take_length] at this;exact this)
      have HBU:=jH (jB HB2.out HB.out)
      have HPU:=jH (HP.out.bel HBU.out)
      have HRU:=jH (HR.out.bel HBU.out)
      have HIU:=jH (HI.out.bel HB.out)
      have HIN:Hid (∀ p∈l,(0≤p.1∧p.1<(i:Int))∧0≤p.2∧p.2<(i:Int)):=jH (by
       have:=HFR.out
       unfold frB at this
       simp only [Bool.and_eq_true,Bool.not_eq_true'] at this
       exact frB_all this.2)
      have HFL:Hid (f∈ls∧f<i):=jH (by
       obtain ⟨x,h1,h2⟩:=(HRC.out.iff (f:Int)).1 .refl
       obtain rfl:f=x:=by omega
       exact ⟨h1,HRC.out.lt _ h1⟩)
      clear HG hlt hk HB HI HP HR
      rename World=>U
      go_wp2_with fail
      go_loopw [16] (fun v V=>∃ k:Nat,k≤m∧v=.int .i64 (k:Int)∧V=U) (fun v _=>m - (intOf v).toNat)
      case atStart=>exact ⟨0,Nat.zero_le _,rfl,rfl⟩
      case round =>
       obtain ⟨k,hk,rfl,hV⟩:=hrel
       replace hV:=hV.symm
       subst hV
       by_cases hlt:k<m
       ·obtain ⟨p,hp⟩:∃ p,l[k]?=some p:=⟨_,List.getElem?_eq_getElem (by have:=HM.out;omega)⟩
        obtain ⟨⟨a0,a1⟩,a2,a3⟩:=HIN.out p (List.mem_of_getElem? hp)
        obtain ⟨g,off,ea,hg,c0,c1⟩:=HPU.out.nth hp
        subst ea
        have k0:(0:Int)≤(k:Int):=by omega
        have k1:(k:Int)<(m:Int):=by omega
        have b0:¬ p.1<0:=by omega
        have b1:¬ (i:Int)≤p.1:=by omega
        have b2:¬ p.2<0:=by omega
        have b3:¬ (i:Int)≤p.2:=by omega
        have HLT:=jH hlt
        clear hp hlt hk a0 a1 a2 a3
        go_wp2_with fail
        go_roundw
        case rel=>exact ⟨k+1,HLT.out,by go_num,trivial⟩
        case measure=>have:=HLT.out;simp [intOf];omega
       ·obtain rfl:k=m:=by omega
        have lt:¬ (k:Int)<(k:Int):=by omega
        clear hlt hk
        have f0:¬ (f:Int)<0:=by omega
        have f1:¬ (i:Int)≤(f:Int):=by have:=HFL.out.2;omega
        have f2:(f:Int)<(i:Int):=by have:=HFL.out.2;omega
        have f3:=HG2.out.cell (mkL_get (ls:=ls) HFL.out.2)
        rw [if_pos HFL.out.1] at f3
        go_wp2_with fail
        clear f0 f1 f2 f3
        go_loopw [17] (fun v V=>∃ j:Nat,j≤k∧v=.int .i64 (j:Int)∧V=U) (fun v _=>k - (intOf v).toNat)
        case atStart=>exact ⟨0,Nat.zero_le _,rfl,rfl⟩
        case round =>
         obtain ⟨j,hj,rfl,hV⟩:=hrel
         replace hV:=hV.symm
         subst hV
         by_cases hlt:j<k
         ·obtain ⟨p,hp⟩:∃ p,l[j]?=some p:=⟨_,List.getElem?_eq_getElem (by have:=HM.out;omega)⟩
          obtain ⟨⟨a0,a1⟩,a2,a3⟩:=HIN.out p (List.mem_of_getElem? hp)
          obtain ⟨g,off,ea,hg,c0,c1⟩:=HPU.out.nth hp
          subst ea
          obtain ⟨x,hx⟩:∃ x:Nat,p.1=(x:Int):=⟨p.1.toNat,by omega⟩
          obtain ⟨y,hy⟩:∃ y:Nat,p.2=(y:Int):=⟨p.2.toNat,by omega⟩
          rw [hx] at c0 a0 a1
          rw [hy] at c1 a2 a3
          have dx:=HG2.out.cell (mkL_get (ls:=ls) (x:=x) (by omega))
          have dy:=HG2.out.cell (mkL_get (ls:=ls) (x:=y) (by omega))
          have k0:(0:Int)≤(j:Int):=by omega
          have k1:(j:Int)<(k:Int):=by omega
          have HLT:=jH hlt
          by_cases hm:y∈ls
          ·have hm2:x∈ls:=by
            have r1:=(HRC.out.iff (y:Int)).2 ⟨y,hm,rfl⟩
            obtain ⟨x',h1,h2⟩:=(HRC.out.iff (x:Int)).1 (.step r1 (by rw [← hx,← hy];exact List.mem_of_getElem? hp))
            obtain rfl:x=x':=by omega
            exact h1
           rw [if_pos hm] at dy
           rw [if_pos hm2] at dx
           clear hp hlt hj hx hy hm hm2
           go_wp2_with fail
           go_roundw
           case rel=>exact ⟨j+1,HLT.out,by go_num,trivial⟩
           case measure=>have:=HLT.out;simp [intOf];omega
          ·rw [if_neg hm] at dy
           clear hp hlt hj hx hy hm dx
           go_wp2_with fail
           go_roundw
           case rel=>exact ⟨j+1,HLT.out,by go_num,trivial⟩
           case measure=>have:=HLT.out;simp [intOf];omega
         ·obtain rfl:j=k:=by omega
          have lt:¬ (j:Int)<(j:Int):=by omega
          clear hlt hj
          go_wp2_with fail
          go_loopw [18] (fun v V=>∃ t:Nat,t≤ls.length∧v=.int .i64 (t:Int)∧Below U.heap.size U V) (fun v _=>ls.length - (intOf v).toNat)
          case atStart=>exact ⟨0,Nat.zero_le _,rfl,Below.refl _ _⟩
          case round =>
           obtain ⟨t,ht,rfl,hB5⟩:=hrel
           have HB5:=jH hB5
           clear hB5
           by_cases hlt:t<ls.length∧t<30
           ·obtain ⟨hlt,h30⟩:=hlt
            obtain ⟨x,hx⟩:∃ x,ls[t]?=some x:=⟨_,List.getElem?_eq_getElem hlt⟩
            have hxn:x<i:=HRC.out.lt x (List.mem_of_getElem? hx)
            obtain ⟨g,off,ea,hg,hc,-⟩:=(HIU.out.bel HB5.out).nth (i:=t) (x:=(x:Int)) (by rw [List.getElem?_map,hx];rfl)
            simp only [Option.some.injEq,Addr.mk.injEq,and_true] at ea
            obtain ⟨rfl,rfl⟩:=ea
            rw [Nat.zero_add] at hc
            have hfx:frB l (i:Int) (x:Int)=true:=by
             have:=HFR.out
             unfold frB at this ⊢
             simp only [Bool.and_eq_true,Bool.not_eq_true',decide_eq_true_eq] at this ⊢
             exact ⟨⟨this.1.1,by simp [blwB];omega⟩,this.2⟩
            have C5:=jH (fun (V:World) (hV:Below U.heap.size U V)=>From_yes V a j cap l (HPU.out.bel hV) (by have:=g1;omega) i x hfx)
            have HX:=jH hx
            have HXN:=jH hxn
            have HLT:=jH hlt
            have k0:(0:Int)≤(t:Int):=by omega
            have k1:(t:Int)<(ls.length:Int):=by omega
            have k2:(t:Int)<30:=by omega
            clear hx hxn hlt ht h30 hfx
            go_wp2_with (go_at_call 19;refine (C5.out _ HB5.out).mono ?_;rintro e w6 ⟨gh,ch,hs,rfl,hI,hR,hb⟩;have HB6:=jH (jB HB5.out hb);have HIH:=jH hI;have HRH:=jH hR;clear hb C5 hI hR hc hg)
            have nh:(hs.length:Int)≤300:=by
             have h1:=nodup_le (n:=i) hs (HRH.out.up.imp fun h=>Nat.ne_of_lt h) HRH.out.lt
             omega
            clear k0 k1 k2
            go_loopw [21] (fun v V=>∃ s:Nat,s≤hs.length∧v=.int .i64 (s:Int)∧V=w6) (fun v _=>hs.length - (intOf v).toNat)
            case atStart=>exact ⟨0,Nat.zero_le _,rfl,rfl⟩
            case round =>
             obtain ⟨s,hs0,rfl,hV⟩:=hrel
             replace hV:=hV.symm
             subst hV
             by_cases hlt:s<hs.length
             ·obtain ⟨y,hy⟩:∃ y,hs[s]?=some y:=⟨_,List.getElem?_eq_getElem hlt⟩
              have hyn:y<i:=HRH.out.lt y (List.mem_of_getElem? hy)
              have hym:y∈ls:=by
               have r1:=(HRC.out.iff (x:Int)).2 ⟨x,List.mem_of_getElem? HX.out,rfl⟩
               have r2:=(HRH.out.iff (y:Int)).2 ⟨y,List.mem_of_getElem? hy,rfl⟩
               obtain ⟨y',h1,h2⟩:=(HRC.out.iff (y:Int)).1 (r1.trans r2)
               obtain rfl:y=y':=by omega
               exact h1
              obtain ⟨g,off,ea,hg,hc,-⟩:=HIH.out.nth (i:=s) (x:=(y:Int)) (by rw [List.getElem?_map,hy];rfl)
              simp only [Option.some.injEq,Addr.mk.injEq,and_true] at ea
              obtain ⟨rfl,rfl⟩:=ea
              rw [Nat.zero_add] at hc
              have dy:=(HG2.out.bel HB6.out).cell (mkL_get (ls:=ls) hyn)
              rw [if_pos hym] at dy
              have HLT2:=jH hlt
              have k0:(0:Int)≤(s:Int):=by omega
              have k1:(s:Int)<(hs.length:Int):=by omega
              have y0:¬ (y:Int)<0:=by omega
              have y1:¬ (i:Int)≤(y:Int):=by omega
              have y2:(0:Int)≤(y:Int):=by omega
              have y3:(y:Int)<(i:Int):=by omega
              clear hlt hs0 hy hyn hym hg
              go_wp2_with fail
              go_roundw
              case rel=>exact ⟨s+1,HLT2.out,by go_num,trivial⟩
              case measure=>have:=HLT2.out;simp [intOf];omega
             ·obtain rfl:s=hs.length:=by omega
              have lt2:¬ (hs.length:Int)<(hs.length:Int):=by omega
              clear hlt hs0
              cases is with
              | false=>as_aux_lemma =>
               have k1:(t:Int)<(ls.length:Int):=by have:=HLT.out;omega
               go_wp2_with fail
               have k2:=HLT.out
               exact ⟨⟨t+1,HLT.out,by go_num,HB6.out⟩,by simp [intOf];omega⟩
              | true=>as_aux_lemma =>
               obtain ⟨hg,ho,hcb⟩:=HCL.out.yes rfl
               obtain ⟨rx,hrx⟩:∃ r,R[x]?=some r:=⟨_,List.getElem?_eq_getElem (by have:=HN.out;have:=HXN.out;omega)⟩
               obtain ⟨rf,hrf⟩:∃ r,R[f]?=some r:=⟨_,List.getElem?_eq_getElem (by have:=HN.out;have:=HFL.out.2;omega)⟩
               have hRn:R≠[]:=by intro hh;subst hh;simp at hrx
               obtain ⟨gb,ob,rfl,hgb,hcc⟩:=(HRU.out.bel HB6.out).cells hRn
               have hpass:=(closed_pass hg ho hcb (f:=(f:Int)) ⟨by omega,by have:=HN.out;have:=HFL.out.2;omega⟩ ((HRC.out.iff (x:Int)).2 ⟨x,List.mem_of_getElem? HX.out,rfl⟩)).2
               have e1:rowZ R (x:Int)=rx.zs:=by simp [rowZ,hrx]
               have e2:rowZ R (f:Int)=rf.zs:=by simp [rowZ,hrf]
               rw [e1,e2] at hpass
               obtain ⟨ex1,ex2⟩:=good_each hg (List.mem_of_getElem? hrx)
               obtain ⟨ef1,ef2⟩:=good_each hg (List.mem_of_getElem? hrf)
               have CH:=jH (fun (V:World) (hV:Below w6.heap.size w6 V)=>has_all rx rf V (((HRU.out.bel HB6.out).bel hV).at_ rx (List.mem_of_getElem? hrx)) (((HRU.out.bel HB6.out).bel hV).at_ rf (List.mem_of_getElem? hrf)) (ef1.trans ex1.symm) ex2 ef2 hpass)
               have FRX:=jH (fun (V:World) (hV:Below w6.heap.size w6 V)=>(show V.cell? ⟨gb,ob+x*2,none⟩=some (.int .i64 rx.x)∧V.cell? ⟨gb,ob+x*2+1,none⟩=some (.slice rx.a rx.zs.length rx.cap) from ⟨(hV.cell (p:=⟨gb,_,none⟩) hgb).trans (hcc x rx hrx).1,(hV.cell (p:=⟨gb,_,none⟩) hgb).trans (hcc x rx hrx).2⟩))
               have FRF:=jH (fun (V:World) (hV:Below w6.heap.size w6 V)=>(show V.cell? ⟨gb,ob+f*2,none⟩=some (.int .i64 rf.x)∧V.cell? ⟨gb,ob+f*2+1,none⟩=some (.slice rf.a rf.zs.length rf.cap) from ⟨(hV.cell (p:=⟨gb,_,none⟩) hgb).trans (hcc f rf hrf).1,(hV.cell (p:=⟨gb,_,none⟩) hgb).trans (hcc f rf hrf).2⟩))
               obtain ⟨g,off,ea,hgf,hcx,-⟩:=(HIU.out.bel HB6.out).nth (i:=t) (x:=(x:Int)) (by rw [List.getElem?_map,HX.out];rfl)
               simp only [Option.some.injEq,Addr.mk.injEq,and_true] at ea
               obtain ⟨rfl,rfl⟩:=ea
               rw [Nat.zero_add] at hcx
               have FX:=jH (fun (V:World) (hV:Below w6.heap.size w6 V)=>(hV.cell (p:=⟨gf,t,none⟩) hgf).trans hcx)
               have k0:(0:Int)≤(t:Int):=by omega
               have k1:(t:Int)<(ls.length:Int):=by have:=HLT.out;omega
               have x0:(0:Int)≤(x:Int):=by omega
               have x1:(x:Int)<(i:Int):=by have:=HXN.out;omega
               have f0:(0:Int)≤(f:Int):=by omega
               have f1:(f:Int)<(i:Int):=by have:=HFL.out.2;omega
               clear hg ho hcb hrx hrf hRn hgb hcc hpass e1 e2 ex1 ex2 ef1 ef2 hgf hcx
               go_upto_region 43 with fail
               refine beginH (S:=fun V=>Below w6.heap.size w6 V) (fun _ _ _ _ _ h=>h) (by kernel_rfl) (belN bR 1) (fun hq hH=>?_)
               refine takeH (i:=0) (d:=239) (.slice (some ⟨gb,ob,none⟩) i cap2) hq rfl rfl (by as_aux_lemma=>kernel_rfl) (by as_aux_lemma=>kernel_rfl) (by as_aux_lemma=>kernel_rfl) (by rfl) (fun W hSw=>by (go_simp;try rfl)) hH ?_
               try simp only [Act.put,List.setIfInBounds_toArray,pb,pc]
               refine takeH (i:=1) (d:=240) (.slice (some ⟨gf,0,none⟩) ls.length cf) hq rfl rfl (by as_aux_lemma=>kernel_rfl) (by as_aux_lemma=>kernel_rfl) (by as_aux_lemma=>kernel_rfl) (by rfl) (fun W hSw=>by (go_simp;try rfl)) hH ?_
               try simp only [Act.put,List.setIfInBounds_toArray,pb,pc]
               refine takeH (i:=2) (d:=241) (.int .i64 (t:Int)) hq rfl rfl (by as_aux_lemma=>kernel_rfl) (by as_aux_lemma=>kernel_rfl) (by as_aux_lemma=>kernel_rfl) (by rfl) (fun W hSw=>by (go_simp;try rfl)) hH ?_
               try simp only [Act.put,List.setIfInBounds_toArray,pb,pc]
               refine takeH (i:=3) (d:=242) (.pointer (some ⟨gf,t,none⟩)) hq rfl rfl (by as_aux_lemma=>kernel_rfl) (by as_aux_lemma=>kernel_rfl) (by as_aux_lemma=>kernel_rfl) (by rfl) (fun W hSw=>by (go_simp;try rfl)) hH ?_
               try simp only [Act.put,List.setIfInBounds_toArray,pb,pc]
               refine takeH (i:=4) (d:=243) (.int .i64 (x:Int)) hq rfl rfl (by as_aux_lemma=>kernel_rfl) (by as_aux_lemma=>kernel_rfl) (by as_aux_lemma=>kernel_rfl) (by rfl) (fun W hSw=>by (have hc:=FX.out _ hSw;go_simp;try rfl)) hH ?_
               try simp only [Act.put,List.setIfInBounds_toArray,pb,pc]
               refine takeH (i:=5) (d:=244) (.pointer (some ⟨gb,ob+x*2,none⟩)) hq rfl rfl (by as_aux_lemma=>kernel_rfl) (by as_aux_lemma=>kernel_rfl) (by as_aux_lemma=>kernel_rfl) (by rfl) (fun W hSw=>by (go_simp;try rfl)) hH ?_
               try simp only [Act.put,List.setIfInBounds_toArray,pb,pc]
               refine takeH (i:=6) (d:=245) (rx.v) hq rfl rfl (by as_aux_lemma=>kernel_rfl) (by as_aux_lemma=>kernel_rfl) (by as_aux_lemma=>kernel_rfl) (by rfl) (fun W hSw=>by (obtain ⟨c0,c1⟩:=FRX.out _ hSw;go_simp;try rfl)) hH ?_
               try simp only [Act.put,List.setIfInBounds_toArray,pb,pc]
               refine takeH (i:=7) (d:=246) (.slice (some ⟨gb,ob,none⟩) i cap2) hq rfl rfl (by as_aux_lemma=>kernel_rfl) (by as_aux_lemma=>kernel_rfl) (by as_aux_lemma=>kernel_rfl) (by rfl) (fun W hSw=>by (go_simp;try rfl)) hH ?_
               try simp only [Act.put,List.setIfInBounds_toArray,pb,pc]
               refine takeH (i:=8) (d:=247) (.int .i64 (f:Int)) hq rfl rfl (by as_aux_lemma=>kernel_rfl) (by as_aux_lemma=>kernel_rfl) (by as_aux_lemma=>kernel_rfl) (by rfl) (fun W hSw=>by (go_simp;try rfl)) hH ?_
               try simp only [Act.put,List.setIfInBounds_toArray,pb,pc]
               refine takeH (i:=9) (d:=248) (.pointer (some ⟨gb,ob+f*2,none⟩)) hq rfl rfl (by as_aux_lemma=>kernel_rfl) (by as_aux_lemma=>kernel_rfl) (by as_aux_lemma=>kernel_rfl) (by rfl) (fun W hSw=>by (go_simp;try rfl)) hH ?_
               try simp only [Act.put,List.setIfInBounds_toArray,pb,pc]
               refine takeH (i:=10) (d:=249) (rf.v) hq rfl rfl (by as_aux_lemma=>kernel_rfl) (by as_aux_lemma=>kernel_rfl) (by as_aux_lemma=>kernel_rfl) (by rfl) (fun W hSw=>by (obtain ⟨c0,c1⟩:=FRF.out _ hSw;go_simp;try rfl)) hH ?_
               try simp only [Act.put,List.setIfInBounds_toArray,pb,pc]
               refine aR1 11 rfl (fun K hK=>?_)
               have C9:=jH (CH.out _ (belN bR 1))
               go_simp
               refine C9.out.mono ?_
               rintro e w7 ⟨rfl,hb⟩
               have HB7:=jH (jB (belN (Below.refl w6.heap.size w6) 1) hb)
               clear hb C9
               go_wp2_with fail
               refine hK.out _ _ HB7.out (fun hH=>?_)
               clear hK K
               try simp only [Act.put,List.setIfInBounds_toArray,pb,pc]
               refine takeH (i:=12) (d:=238) (.tuple #[.bool true,.int .i64 0]) hq rfl rfl (by as_aux_lemma=>kernel_rfl) (by as_aux_lemma=>kernel_rfl) (by as_aux_lemma=>kernel_rfl) (by rfl) (fun W hSw=>by (go_simp;try rfl)) hH ?_
               try simp only [Act.put,List.setIfInBounds_toArray,pb,pc]
               refine takeH (i:=13) (d:=251) (.bool true) hq rfl rfl (by as_aux_lemma=>kernel_rfl) (by as_aux_lemma=>kernel_rfl) (by as_aux_lemma=>kernel_rfl) (by rfl) (fun W hSw=>by (go_simp;try rfl)) hH ?_
               try simp only [Act.put,List.setIfInBounds_toArray,pb,pc]
               refine takeH (i:=14) (d:=252) (.int .i64 0) hq rfl rfl (by as_aux_lemma=>kernel_rfl) (by as_aux_lemma=>kernel_rfl) (by as_aux_lemma=>kernel_rfl) (by rfl) (fun W hSw=>by (go_simp;try rfl)) hH ?_
               try simp only [Act.put,List.setIfInBounds_toArray,pb,pc]
               refine takeH (i:=15) (d:=22) (.bool true) hq rfl rfl (by as_aux_lemma=>kernel_rfl) (by as_aux_lemma=>kernel_rfl) (by as_aux_lemma=>kernel_rfl) (by rfl) (fun W hSw=>by (go_simp;try rfl)) hH ?_
               try simp only [Act.put,List.setIfInBounds_toArray,pb,pc]
               refine takeH (i:=16) (d:=23) (.int .i64 0) hq rfl rfl (by as_aux_lemma=>kernel_rfl) (by as_aux_lemma=>kernel_rfl) (by as_aux_lemma=>kernel_rfl) (by rfl) (fun W hSw=>by (go_simp;try rfl)) hH ?_
               try simp only [Act.put,List.setIfInBounds_toArray,pb,pc]
               refine wpAnyH_done (by kernel_rfl) ?_ _
               clear hH hq
               have HB8:=jH (jB HB6.out HB7.out)
               clear k0 x0 x1 f0 f1
               go_wp2_with fail
               have k2:=HLT.out
               exact ⟨⟨t+1,HLT.out,by go_num,HB8.out⟩,by simp [intOf];omega⟩
           ·have HBE:=jH (jB HBU.out HB5.out)
            by_cases h1:t<ls.length
            ·have h2:¬ (t:Int)<30:=by omega
             have h3:(t:Int)<(ls.length:Int):=by omega
             clear hlt ht h1
             as_aux_lemma =>
             by_cases he:er=0
             ·subst he
              go_wp2_with (go_at_call 8;refine (HAW.out _).mono ?_;rintro e w9 ⟨rfl,hb⟩;have HB9:=jH (jB HBE.out hb);clear hb)
              go_ret
              exact ⟨rfl,HB9.out⟩
             ·have hf:is=false:=by
               cases is with
               | false=>rfl
               | true=>exact absurd (HCL.out.err rfl) he
              subst hf
              have he2:(er == 0)=false:=by simpa using he
              clear he
              go_wp2_with (go_at_call 8;refine (HAW.out _).mono ?_;rintro e w9 ⟨rfl,hb⟩;have HB9:=jH (jB HBE.out hb);clear hb)
              go_ret
              exact ⟨rfl,HB9.out⟩
            ·have h3:¬ (t:Int)<(ls.length:Int):=by omega
             clear hlt ht h1
             as_aux_lemma =>
             by_cases he:er=0
             ·subst he
              go_wp2_with (go_at_call 8;refine (HAW.out _).mono ?_;rintro e w9 ⟨rfl,hb⟩;have HB9:=jH (jB HBE.out hb);clear hb)
              go_ret
              exact ⟨rfl,HB9.out⟩
             ·have hf:is=false:=by
               cases is with
               | false=>rfl
               | true=>exact absurd (HCL.out.err rfl) he
              subst hf
              have he2:(er == 0)=false:=by simpa using he
              clear he
              go_wp2_with (go_at_call 8;refine (HAW.out _).mono ?_;rintro e w9 ⟨rfl,hb⟩;have HB9:=jH (jB HBE.out hb);clear hb)
              go_ret
              exact ⟨rfl,HB9.out⟩
end Go.Proofs.YtmjenlogbkbgnaaGreatDoor
