import Derived.Test.YtmjenlogbkbgnaaGreatDoorB12
namespace Go.Proofs.YtmjenlogbkbgnaaGreatDoor
open Go.RowKit Go.Shelf
set_option linter.unusedVariables false
set_option linter.unusedSimpArgs false
set_option maxRecDepth 100000
set_option maxHeartbeats 8000000
theorem kind_at {w:World} {f:Fv}:∀ {c:Ch},TyAt w f c.ty→f.k=kindC c
 | .leaf k s,h=>by obtain ⟨_,_,rfl,-⟩:=h.leaf;rfl
 | .box c,h=>by obtain ⟨_,_,_,_,rfl,-⟩:=h.box;rfl
 | .ref m r c,h=>by obtain ⟨_,_,_,_,rfl,-⟩:=h.ref;rfl
theorem allK_no {k:Nat} {cl:List Ch} {i:Nat} {c:Ch} (hi:cl[i]?=some c) (h:kindC c≠k):allK k cl=false:=by
 unfold allK
 rw [List.all_eq_false]
 exact ⟨c,List.mem_of_getElem? hi,by simpa using h⟩
theorem areAll_any (w:World) (k:Nat) (a:Option Addr) (n cap:Nat) (cl:List Ch) (h:LcAt w a n cap (cl.map Ch.ty)) (hn:n≤2000000) (r:Bool) (hr:r=allK k cl) :
  Calls Tryz.prog 197 #[.int .u8 (k:Int),.slice a n cap] w fun e w'=>e=.returned (.bool r)∧Below w.heap.size w w':=by
 have hlen:n=cl.length:=by have:=h.len;rw [List.length_map] at this;exact this
 have HL:=jH hlen
 have H:=jH h
 have HR:=jH hr
 have n0:(n:Int)≤2000000:=by omega
 clear h hlen hr hn
 go_enter Tryz.func197,Tryz.ntmps197
 go_wp2_with fail
 go_loopw [9] (fun v V=>∃ i:Nat,i≤n∧v=.int .i64 (i:Int)∧(∀ j c,j<i→cl[j]?=some c→kindC c=k)∧Below w.heap.size w V) (fun v _=>n - (intOf v).toNat)
 case atStart=>exact ⟨0,Nat.zero_le _,rfl,fun j c hj=>by omega,Below.refl _ _⟩
 case round =>
  obtain ⟨i,hi,rfl,hall,hB⟩:=hrel
  have HA:=jH hall
  have HB:=jH hB
  clear hall hB
  by_cases hlt:i<n
  ·obtain ⟨c,hc⟩:∃ c,cl[i]?=some c:=⟨_,List.getElem?_eq_getElem (by have:=HL.out;omega)⟩
   have hty:(cl.map Ch.ty)[i]?=some c.ty:=by rw [List.getElem?_map,hc];rfl
   obtain ⟨g,off,V,ea,hc5,hT⟩:=H.out.one hty
   have hk:=kind_at hT
   have ea2:a=some ⟨g,off,none⟩:=ea
   subst ea2
   obtain ⟨hg,p0,p1,p2,p3,p4⟩:=hc5.below HB.out
   obtain ⟨kk,mm,rr,ss,aa,nn,cc⟩:=V
   have hk2:kk=kindC c:=hk
   have i0:(0:Int)≤(i:Int):=by omega
   have i1:(i:Int)<(n:Int):=by omega
   have HLT:=jH hlt
   have HC:=jH hc
   have HK:=jH hk2
   clear hc5 hT hty hc hk hk2 hlt ea hi
   by_cases hkk:kk=k
   ·have hb:((kk:Int) == (k:Int))=true:=by rw [hkk];simp
    have hb2:((kk:Int) != (k:Int))=false:=by rw [hkk];simp
    have HKK:=jH hkk
    clear hkk
    go_wp2_with fail
    refine ⟨⟨i+1,HLT.out,rfl,fun j c' hj hc'=>?_,belA HB.out⟩,?_⟩
    ·rcases Nat.lt_or_ge j i with h1|h1
     ·exact HA.out j c' h1 hc'
     ·obtain rfl:j=i:=by omega
      have:=HC.out
      rw [hc'] at this
      cases this
      rw [← HK.out,HKK.out]
    ·show n - ((i:Int)+1).toNat<n - (i:Int).toNat
     have:=HLT.out
     omega
   ·have hb:((kk:Int) == (k:Int))=false:=by simp;omega
    have hb2:((kk:Int) != (k:Int))=true:=by simp;omega
    have HKK:=jH hkk
    clear hkk
    go_wp2_with fail
    go_ret
    refine ⟨?_,belA HB.out⟩
    have:r=false:=by rw [HR.out];exact allK_no HC.out (by rw [← HK.out];exact HKK.out)
    rw [this]
    rfl
  ·obtain rfl:i=n:=by omega
   have lt:¬ (i:Int)<(i:Int):=by omega
   clear hlt hi
   go_wp2_with fail
   go_ret
   refine ⟨?_,HB.out⟩
   have:r=true:=by
    rw [HR.out]
    unfold allK
    rw [List.all_eq_true]
    intro c hc
    obtain ⟨j,hj⟩:=List.getElem?_of_mem hc
    have hj2:j<cl.length:=(List.getElem?_eq_some_iff.1 hj).1
    simpa using HA.out j c (by have:=HL.out;omega) hj
   rw [this]
   rfl
theorem needs_any (w:World) (b:Nat) (hb:b<w.heap.size) (dr:Nat→Bool) (hd:∀ i,i<32→w.cell? ⟨b,31+i,none⟩=some (.bool (dr i))) (n:Int) (hn:n≤32) (c:Ch) (f:Fv) (hc:c.ok n) (hT:TyAt w f c.ty) (x:Sc) (hx:x.dr=dr) (r:Bool) (hr:r=x.drp c) :
  Calls Tryz.prog 200 #[.pointer (some ⟨b,0,none⟩),f.v] w fun e w'=>e=.returned (.bool r)∧Below w.heap.size w w':=by
 cases c with
 | leaf k s =>
  obtain ⟨fa0,fcap0,rfl,-⟩:=hT.leaf
  have hk5:(k=1∨k=2)∧s=0∨k=5∧0≤s∧s<n:=hc
  by_cases k5:k=5
  ·subst k5
   obtain ⟨j,rfl⟩:∃ j:Nat,s=(j:Int):=⟨s.toNat,by omega⟩
   have hj:j<32:=by omega
   have hcell:=hd j hj
   have hr2:r=dr j:=by rw [hr,← hx];simp [Sc.drp]
   obtain ⟨d,hdd⟩:∃ d,d=dr j:=⟨_,rfl⟩
   rw [← hdd] at hcell hr2
   subst hr2
   have j0:(0:Int)≤(j:Int):=by omega
   have j1:(j:Int)<32:=by omega
   clear hdd hd hr hx hc hT hk5 hj hn
   show Calls Tryz.prog 200 #[.pointer (some ⟨b,0,none⟩),tyV 5 false 0 (j:Int) fa0 0 fcap0] w _
   go_enter Tryz.func200,Tryz.ntmps200
   go_upto_region 1 with fail
   go_quiet (fail)
   go_wp2_with fail
   go_ret
   exact ⟨rfl,belN (belA bR) _⟩
  ·have hr2:r=false:=by rw [hr];simp [Sc.drp,k5]
   have k3:¬ (k:Int)=3:=by omega
   have k5':¬ (k:Int)=5:=by omega
   have k3b:((k:Int) == 3)=false:=by simpa using k3
   have k5b:((k:Int) == 5)=false:=by simpa using k5'
   subst hr2
   clear hd hr hx hc hT hk5 hn
   show Calls Tryz.prog 200 #[.pointer (some ⟨b,0,none⟩),tyV k false 0 s fa0 0 fcap0] w _
   go_enter Tryz.func200,Tryz.ntmps200
   go_upto_region 1 with fail
   go_quiet (fail)
   go_wp2_with fail
   go_ret
   exact ⟨rfl,belN (belA bR) _⟩
 | box d =>
  obtain ⟨g,off,cap',f2,rfl,-⟩:=hT.box
  have hr2:r=true:=hr
  subst hr2
  clear hd hr hx hc hT hn
  show Calls Tryz.prog 200 #[.pointer (some ⟨b,0,none⟩),tyV 3 false 0 0 (some ⟨g,off,none⟩) 1 cap'] w _
  go_enter Tryz.func200,Tryz.ntmps200
  go_upto_region 1 with fail
  go_quiet (fail)
  go_wp2_with fail
  go_ret
  exact ⟨rfl,belN (belA bR) _⟩
 | ref m q d =>
  obtain ⟨g,off,cap',f2,rfl,-⟩:=hT.ref
  have hr2:r=false:=hr
  subst hr2
  clear hd hr hx hc hT hn
  show Calls Tryz.prog 200 #[.pointer (some ⟨b,0,none⟩),tyV 4 m q 0 (some ⟨g,off,none⟩) 1 cap'] w _
  go_enter Tryz.func200,Tryz.ntmps200
  go_upto_region 1 with fail
  go_quiet (fail)
  go_wp2_with fail
  go_ret
  exact ⟨rfl,belN (belA bR) _⟩
theorem lc_one (w:World) (f:Fv) (c:Ch) (h:TyAt w f c.ty):LcAt (w.alloc (.cells #[.int .u8 (f.k:Int),.bool f.m,.int .i64 f.r,.int .i64 f.s,.slice f.a f.n f.cap] 43 (0,0))) (some ⟨w.heap.size,0,none⟩) 1 1 ([c].map Ch.ty):=by
 have hA:At (w.alloc f.o) w.heap.size f.o:=At.new _ _
 refine ⟨rfl,by unfold maxLen;decide,fun _=>⟨w.heap.size,0,rfl,fun i t hi=>?_⟩⟩
 match i,hi with
 | 0,hi =>
  simp at hi
  subst hi
  exact ⟨f,by simpa using hA.ty,h.bel (belA bR)⟩
 | i+1,hi=>simp at hi
def binB (sg:List UInt8) (ints bools t1 t2:Bool):Bool:=if isSum sg then ints && t1 else if isEq sg then (ints || bools) && t2 else if isLess sg then ints && t2 else false
theorem binary_any (w:World) (b:Nat) (sg:ByteArray) (a:Option Addr) (n cap:Nat) (k:Nat) (m:Bool) (q s:Int) (fa:Option Addr) (fn fcap:Nat)
  (hcs:∀ W,Below w.heap.size w W→W.cell? ⟨b,12,none⟩=some (.string sg)∧W.cell? ⟨b,77,none⟩=some (.slice a n cap)∧W.cell? ⟨b,63,none⟩=some (.int .u8 (k:Int))∧W.cell? ⟨b,64,none⟩=some (.bool m)∧W.cell? ⟨b,65,none⟩=some (.int .i64 q)∧W.cell? ⟨b,66,none⟩=some (.int .i64 s)∧W.cell? ⟨b,67,none⟩=some (.slice fa fn fcap))
  (cl:List Ch) (hn:n≤2000000) (hL:LcAt w a n cap (cl.map Ch.ty)) (c:Ch) (hT:TyAt w ⟨k,m,q,s,fa,fn,fcap⟩ c.ty) (r:Bool) (hr:r=binB sg.toList (allK 1 cl) (allK 2 cl) (allK 1 [c]) (allK 2 [c])) :
  Calls Tryz.prog 196 #[.pointer (some ⟨b,0,none⟩)] w fun e w'=>e=.returned (.bool r)∧Below w.heap.size w w':=by
 have HC:=jH hcs
 obtain ⟨ints,hints⟩:∃ x,x=allK 1 cl:=⟨_,rfl⟩
 obtain ⟨bools,hbools⟩:∃ x,x=allK 2 cl:=⟨_,rfl⟩
 obtain ⟨t1,ht1⟩:∃ x,x=allK 1 [c]:=⟨_,rfl⟩
 obtain ⟨t2,ht2⟩:∃ x,x=allK 2 [c]:=⟨_,rfl⟩
 rw [← hints,← hbools,← ht1,← ht2] at hr
 have CA1:Hid (∀ W,Below w.heap.size w W→Calls Tryz.prog 197 #[.int .u8 1,.slice a n cap] W fun e w'=>e=.returned (.bool ints)∧Below W.heap.size W w'):=fun W hW=>areAll_any W 1 a n cap cl (hL.bel hW) hn ints hints
 have CA2:Hid (∀ W,Below w.heap.size w W→Calls Tryz.prog 197 #[.int .u8 2,.slice a n cap] W fun e w'=>e=.returned (.bool bools)∧Below W.heap.size W w'):=fun W hW=>areAll_any W 2 a n cap cl (hL.bel hW) hn bools hbools
 have CT1:Hid (∀ (W:World),Below w.heap.size w W→Calls Tryz.prog 197 #[.int .u8 1,.slice (some ⟨W.heap.size,0,none⟩) 1 1] (W.alloc (.cells #[.int .u8 (k:Int),.bool m,.int .i64 q,.int .i64 s,.slice fa fn fcap] 43 (0,0))) fun e w'=>e=.returned (.bool t1)∧Below W.heap.size W w'):=fun W hW=>(areAll_any _ 1 _ 1 1 [c] (lc_one W ⟨k,m,q,s,fa,fn,fcap⟩ c (hT.bel hW)) (by decide) t1 ht1).mono fun e w' x=>⟨x.1,below1 x.2⟩
 have CT2:Hid (∀ (W:World),Below w.heap.size w W→Calls Tryz.prog 197 #[.int .u8 2,.slice (some ⟨W.heap.size,0,none⟩) 1 1] (W.alloc (.cells #[.int .u8 (k:Int),.bool m,.int .i64 q,.int .i64 s,.slice fa fn fcap] 43 (0,0))) fun e w'=>e=.returned (.bool t2)∧Below W.heap.size W w'):=fun W hW=>(areAll_any _ 2 _ 1 1 [c] (lc_one W ⟨k,m,q,s,fa,fn,fcap⟩ c (hT.bel hW)) (by decide) t2 ht2).mono fun e w' x=>⟨x.1,below1 x.2⟩
 clear hcs hints hbools ht1 ht2 hL hT hn
 go_enter Tryz.func196,Tryz.ntmps196
 go_upto_region 1 with fail
 go_cut [3,4] (fun u v V=>u=.bool ints∧v=.bool bools∧Below w.heap.size w V)
 case first =>
  refine beginH (S:=fun V=>Below w.heap.size w V) (fun _ _ _ _ _ h=>h) (by kernel_rfl) (belN bR 1) (fun hq hH=>?_)
  refine tz 0 5 (.pointer (some ⟨b,0,none⟩)) hq rfl rfl hH ?_
  simp only [pb,pc]
  refine tz 1 6 (.pointer (some ⟨b,0,none⟩)) hq rfl rfl hH ?_
  simp only [pb,pc]
  refine tz 2 7 (.pointer (some ⟨b,77,none⟩)) hq rfl rfl hH ?_
  simp only [pb,pc]
  refine tq 3 8 (.slice a n cap) hq rfl rfl (fun W hSw=>by (obtain ⟨c12,c77,c63,c64,c65,c66,c67⟩:=HC.out _ hSw;go_simp;try rfl)) hH ?_
  simp only [pb,pc]
  refine tz 5 10 (.pointer (some ⟨b,0,none⟩)) hq rfl rfl hH ?_
  simp only [pb,pc]
  refine tz 6 11 (.pointer (some ⟨b,0,none⟩)) hq rfl rfl hH ?_
  simp only [pb,pc]
  refine tz 7 12 (.pointer (some ⟨b,77,none⟩)) hq rfl rfl hH ?_
  simp only [pb,pc]
  refine tq 8 13 (.slice a n cap) hq rfl rfl (fun W hSw=>by (obtain ⟨c12,c77,c63,c64,c65,c66,c67⟩:=HC.out _ hSw;go_simp;try rfl)) hH ?_
  simp only [pb,pc]
  refine aR1 4 rfl (fun K hK=>?_)
  go_simp
  refine (CA1.out _ (jB bR (belN bR 1))).mono ?_
  rintro e v1 ⟨rfl,hb1⟩
  have hS1:Below w.heap.size w v1:=jB (belN bR 1) hb1
  go_wp2_with fail
  refine hK.out _ _ hS1 (fun hH=>?_)
  clear hK K
  try simp only [Act.put,List.setIfInBounds_toArray,pb,pc]
  have HS1:=jH hS1
  clear hb1 hS1
  refine aR1 9 rfl (fun K hK=>?_)
  go_simp
  refine (CA2.out _ (jB bR HS1.out)).mono ?_
  rintro e v2 ⟨rfl,hb2⟩
  have hS2:Below w.heap.size w v2:=jB HS1.out hb2
  go_wp2_with fail
  refine hK.out _ _ hS2 (fun hH=>?_)
  clear hK K
  try simp only [Act.put,List.setIfInBounds_toArray,pb,pc]
  have HS2:=jH hS2
  clear hb2 hS2
  refine tz 10 3 (.bool ints) hq rfl rfl hH ?_
  simp only [pb,pc]
  refine tz 11 4 (.bool bools) hq rfl rfl hH ?_
  simp only [pb,pc]
  refine wpAnyH_done (by kernel_rfl) ?_ _
  go_wp2_with fail
  go_meet
  exact ⟨rfl,rfl,HS2.out⟩
 case rest =>
  obtain ⟨rfl,rfl,hB⟩:=hcut
  have HB:=jH hB
  obtain ⟨c12,c77,c63,c64,c65,c66,c67⟩:=HC.out _ hB
  clear hB CA1 CA2 HC
  by_cases h0:sg.toList=[43]
  ·skip
   have hs:sg.toList=[43]:=h0
   clear h0
   have q43:(sg.toList == [43])=true:=by rw [hs];rfl
   have q45:(sg.toList == [45])=false:=by rw [hs];rfl
   have q42:(sg.toList == [42])=false:=by rw [hs];rfl
   have q47:(sg.toList == [47])=false:=by rw [hs];rfl
   have q37:(sg.toList == [37])=false:=by rw [hs];rfl
   have q61_61:(sg.toList == [61,61])=false:=by rw [hs];rfl
   have q33_61:(sg.toList == [33,61])=false:=by rw [hs];rfl
   have q60:(sg.toList == [60])=false:=by rw [hs];rfl
   have q60_61:(sg.toList == [60,61])=false:=by rw [hs];rfl
   have q62:(sg.toList == [62])=false:=by rw [hs];rfl
   have q62_61:(sg.toList == [62,61])=false:=by rw [hs];rfl
   cases ints with
   | true =>
    have hr2:r=t1:=by rw [hr,hs];rfl
    subst hr2
    clear hr hs
    go_wp2_with (go_at_call 197;refine (CT1.out _ HB.out).mono ?_;rintro e w1 ⟨rfl,hb1⟩;have HF:=jH (jB HB.out hb1);clear hb1)
    go_ret
    exact ⟨rfl,HF.out⟩
   | false =>
    have hr2:r=false:=by rw [hr,hs];rfl
    subst hr2
    clear hr hs
    go_wp2_with fail
    go_ret
    exact ⟨rfl,HB.out⟩
  by_cases h1:sg.toList=[45]
  ·skip
   have hs:sg.toList=[45]:=h1
   clear h1
   have q43:(sg.toList == [43])=false:=by rw [hs];rfl
   have q45:(sg.toList == [45])=true:=by rw [hs];rfl
   have q42:(sg.toList == [42])=false:=by rw [hs];rfl
   have q47:(sg.toList == [47])=false:=by rw [hs];rfl
   have q37:(sg.toList == [37])=false:=by rw [hs];rfl
   have q61_61:(sg.toList == [61,61])=false:=by rw [hs];rfl
   have q33_61:(sg.toList == [33,61])=false:=by rw [hs];rfl
   have q60:(sg.toList == [60])=false:=by rw [hs];rfl
   have q60_61:(sg.toList == [60,61])=false:=by rw [hs];rfl
   have q62:(sg.toList == [62])=false:=by rw [hs];rfl
   have q62_61:(sg.toList == [62,61])=false:=by rw [hs];rfl
   cases ints with
   | true =>
    have hr2:r=t1:=by rw [hr,hs];rfl
    subst hr2
    clear hr hs
    go_wp2_with (go_at_call 197;refine (CT1.out _ HB.out).mono ?_;rintro e w1 ⟨rfl,hb1⟩;have HF:=jH (jB HB.out hb1);clear hb1)
    go_ret
    exact ⟨rfl,HF.out⟩
   | false =>
    have hr2:r=false:=by rw [hr,hs];rfl
    subst hr2
    clear hr hs
    go_wp2_with fail
    go_ret
    exact ⟨rfl,HB.out⟩
  by_cases h2:sg.toList=[42]
  ·skip
   have hs:sg.toList=[42]:=h2
   clear h2
   have q43:(sg.toList == [43])=false:=by rw [hs];rfl
   have q45:(sg.toList == [45])=false:=by rw [hs];rfl
   have q42:(sg.toList == [42])=true:=by rw [hs];rfl
   have q47:(sg.toList == [47])=false:=by rw [hs];rfl
   have q37:(sg.toList == [37])=false:=by rw [hs];rfl
   have q61_61:(sg.toList == [61,61])=false:=by rw [hs];rfl
   have q33_61:(sg.toList == [33,61])=false:=by rw [hs];rfl
   have q60:(sg.toList == [60])=false:=by rw [hs];rfl
   have q60_61:(sg.toList == [60,61])=false:=by rw [hs];rfl
   have q62:(sg.toList == [62])=false:=by rw [hs];rfl
   have q62_61:(sg.toList == [62,61])=false:=by rw [hs];rfl
   cases ints with
   | true =>
    have hr2:r=t1:=by rw [hr,hs];rfl
    subst hr2
    clear hr hs
    go_wp2_with (go_at_call 197;refine (CT1.out _ HB.out).mono ?_;rintro e w1 ⟨rfl,hb1⟩;have HF:=jH (jB HB.out hb1);clear hb1)
    go_ret
    exact ⟨rfl,HF.out⟩
   | false =>
    have hr2:r=false:=by rw [hr,hs];rfl
    subst hr2
    clear hr hs
    go_wp2_with fail
    go_ret
    exact ⟨rfl,HB.out⟩
  by_cases h3:sg.toList=[47]
  ·skip
   have hs:sg.toList=[47]:=h3
   clear h3
   have q43:(sg.toList == [43])=false:=by rw [hs];rfl
   have q45:(sg.toList == [45])=false:=by rw [hs];rfl
   have q42:(sg.toList == [42])=false:=by rw [hs];rfl
   have q47:(sg.toList == [47])=true:=by rw [hs];rfl
   have q37:(sg.toList == [37])=false:=by rw [hs];rfl
   have q61_61:(sg.toList == [61,61])=false:=by rw [hs];rfl
   have q33_61:(sg.toList == [33,61])=false:=by rw [hs];rfl
   have q60:(sg.toList == [60])=false:=by rw [hs];rfl
   have q60_61:(sg.toList == [60,61])=false:=by rw [hs];rfl
   have q62:(sg.toList == [62])=false:=by rw [hs];rfl
   have q62_61:(sg.toList == [62,61])=false:=by rw [hs];rfl
   cases ints with
   | true =>
    have hr2:r=t1:=by rw [hr,hs];rfl
    subst hr2
    clear hr hs
    go_wp2_with (go_at_call 197;refine (CT1.out _ HB.out).mono ?_;rintro e w1 ⟨rfl,hb1⟩;have HF:=jH (jB HB.out hb1);clear hb1)
    go_ret
    exact ⟨rfl,HF.out⟩
   | false =>
    have hr2:r=false:=by rw [hr,hs];rfl
    subst hr2
    clear hr hs
    go_wp2_with fail
    go_ret
    exact ⟨rfl,HB.out⟩
  by_cases h4:sg.toList=[37]
  ·skip
   have hs:sg.toList=[37]:=h4
   clear h4
   have q43:(sg.toList == [43])=false:=by rw [hs];rfl
   have q45:(sg.toList == [45])=false:=by rw [hs];rfl
   have q42:(sg.toList == [42])=false:=by rw [hs];rfl
   have q47:(sg.toList == [47])=false:=by rw [hs];rfl
   have q37:(sg.toList == [37])=true:=by rw [hs];rfl
   have q61_61:(sg.toList == [61,61])=false:=by rw [hs];rfl
   have q33_61:(sg.toList == [33,61])=false:=by rw [hs];rfl
   have q60:(sg.toList == [60])=false:=by rw [hs];rfl
   have q60_61:(sg.toList == [60,61])=false:=by rw [hs];rfl
   have q62:(sg.toList == [62])=false:=by rw [hs];rfl
   have q62_61:(sg.toList == [62,61])=false:=by rw [hs];rfl
   cases ints with
   | true =>
    have hr2:r=t1:=by rw [hr,hs];rfl
    subst hr2
    clear hr hs
    go_wp2_with (go_at_call 197;refine (CT1.out _ HB.out).mono ?_;rintro e w1 ⟨rfl,hb1⟩;have HF:=jH (jB HB.out hb1);clear hb1)
    go_ret
    exact ⟨rfl,HF.out⟩
   | false =>
    have hr2:r=false:=by rw [hr,hs];rfl
    subst hr2
    clear hr hs
    go_wp2_with fail
    go_ret
    exact ⟨rfl,HB.out⟩
  by_cases h5:sg.toList=[61,61]
  ·skip
   have hs:sg.toList=[61,61]:=h5
   clear h5
   have q43:(sg.toList == [43])=false:=by rw [hs];rfl
   have q45:(sg.toList == [45])=false:=by rw [hs];rfl
   have q42:(sg.toList == [42])=false:=by rw [hs];rfl
   have q47:(sg.toList == [47])=false:=by rw [hs];rfl
   have q37:(sg.toList == [37])=false:=by rw [hs];rfl
   have q61_61:(sg.toList == [61,61])=true:=by rw [hs];rfl
   have q33_61:(sg.toList == [33,61])=false:=by rw [hs];rfl
   have q60:(sg.toList == [60])=false:=by rw [hs];rfl
   have q60_61:(sg.toList == [60,61])=false:=by rw [hs];rfl
   have q62:(sg.toList == [62])=false:=by rw [hs];rfl
   have q62_61:(sg.toList == [62,61])=false:=by rw [hs];rfl
   cases ints with
   | true =>
    have hr2:r=t2:=by rw [hr,hs];rfl
    subst hr2
    clear hr hs
    go_wp2_with (go_at_call 197;refine (CT2.out _ HB.out).mono ?_;rintro e w1 ⟨rfl,hb1⟩;have HF:=jH (jB HB.out hb1);clear hb1)
    go_ret
    exact ⟨rfl,HF.out⟩
   | false =>
    cases bools with
    | true =>
     have hr2:r=t2:=by rw [hr,hs];rfl
     subst hr2
     clear hr hs
     go_wp2_with (go_at_call 197;refine (CT2.out _ HB.out).mono ?_;rintro e w1 ⟨rfl,hb1⟩;have HF:=jH (jB HB.out hb1);clear hb1)
     go_ret
     exact ⟨rfl,HF.out⟩
    | false =>
     have hr2:r=false:=by rw [hr,hs];rfl
     subst hr2
     clear hr hs
     go_wp2_with fail
     go_ret
     exact ⟨rfl,HB.out⟩
  by_cases h6:sg.toList=[33,61]
  ·skip
   have hs:sg.toList=[33,61]:=h6
   clear h6
   have q43:(sg.toList == [43])=false:=by rw [hs];rfl
   have q45:(sg.toList == [45])=false:=by rw [hs];rfl
   have q42:(sg.toList == [42])=false:=by rw [hs];rfl
   have q47:(sg.toList == [47])=false:=by rw [hs];rfl
   have q37:(sg.toList == [37])=false:=by rw [hs];rfl
   have q61_61:(sg.toList == [61,61])=false:=by rw [hs];rfl
   have q33_61:(sg.toList == [33,61])=true:=by rw [hs];rfl
   have q60:(sg.toList == [60])=false:=by rw [hs];rfl
   have q60_61:(sg.toList == [60,61])=false:=by rw [hs];rfl
   have q62:(sg.toList == [62])=false:=by rw [hs];rfl
   have q62_61:(sg.toList == [62,61])=false:=by rw [hs];rfl
   cases ints with
   | true =>
    have hr2:r=t2:=by rw [hr,hs];rfl
    subst hr2
    clear hr hs
    go_wp2_with (go_at_call 197;refine (CT2.out _ HB.out).mono ?_;rintro e w1 ⟨rfl,hb1⟩;have HF:=jH (jB HB.out hb1);clear hb1)
    go_ret
    exact ⟨rfl,HF.out⟩
   | false =>
    cases bools with
    | true =>
     have hr2:r=t2:=by rw [hr,hs];rfl
     subst hr2
     clear hr hs
     go_wp2_with (go_at_call 197;refine (CT2.out _ HB.out).mono ?_;rintro e w1 ⟨rfl,hb1⟩;have HF:=jH (jB HB.out hb1);clear hb1)
     go_ret
     exact ⟨rfl,HF.out⟩
    | false =>
     have hr2:r=false:=by rw [hr,hs];rfl
     subst hr2
     clear hr hs
     go_wp2_with fail
     go_ret
     exact ⟨rfl,HB.out⟩
  by_cases h7:sg.toList=[60]
  ·skip
   have hs:sg.toList=[60]:=h7
   clear h7
   have q43:(sg.toList == [43])=false:=by rw [hs];rfl
   have q45:(sg.toList == [45])=false:=by rw [hs];rfl
   have q42:(sg.toList == [42])=false:=by rw [hs];rfl
   have q47:(sg.toList == [47])=false:=by rw [hs];rfl
   have q37:(sg.toList == [37])=false:=by rw [hs];rfl
   have q61_61:(sg.toList == [61,61])=false:=by rw [hs];rfl
   have q33_61:(sg.toList == [33,61])=false:=by rw [hs];rfl
   have q60:(sg.toList == [60])=true:=by rw [hs];rfl
   have q60_61:(sg.toList == [60,61])=false:=by rw [hs];rfl
   have q62:(sg.toList == [62])=false:=by rw [hs];rfl
   have q62_61:(sg.toList == [62,61])=false:=by rw [hs];rfl
   cases ints with
   | true =>
    have hr2:r=t2:=by rw [hr,hs];rfl
    subst hr2
    clear hr hs
    go_wp2_with (go_at_call 197;refine (CT2.out _ HB.out).mono ?_;rintro e w1 ⟨rfl,hb1⟩;have HF:=jH (jB HB.out hb1);clear hb1)
    go_ret
    exact ⟨rfl,HF.out⟩
   | false =>
    have hr2:r=false:=by rw [hr,hs];rfl
    subst hr2
    clear hr hs
    go_wp2_with fail
    go_ret
    exact ⟨rfl,HB.out⟩
  by_cases h8:sg.toList=[60,61]
  ·skip
   have hs:sg.toList=[60,61]:=h8
   clear h8
   have q43:(sg.toList == [43])=false:=by rw [hs];rfl
   have q45:(sg.toList == [45])=false:=by rw [hs];rfl
   have q42:(sg.toList == [42])=false:=by rw [hs];rfl
   have q47:(sg.toList == [47])=false:=by rw [hs];rfl
   have q37:(sg.toList == [37])=false:=by rw [hs];rfl
   have q61_61:(sg.toList == [61,61])=false:=by rw [hs];rfl
   have q33_61:(sg.toList == [33,61])=false:=by rw [hs];rfl
   have q60:(sg.toList == [60])=false:=by rw [hs];rfl
   have q60_61:(sg.toList == [60,61])=true:=by rw [hs];rfl
   have q62:(sg.toList == [62])=false:=by rw [hs];rfl
   have q62_61:(sg.toList == [62,61])=false:=by rw [hs];rfl
   cases ints with
   | true =>
    have hr2:r=t2:=by rw [hr,hs];rfl
    subst hr2
    clear hr hs
    go_wp2_with (go_at_call 197;refine (CT2.out _ HB.out).mono ?_;rintro e w1 ⟨rfl,hb1⟩;have HF:=jH (jB HB.out hb1);clear hb1)
    go_ret
    exact ⟨rfl,HF.out⟩
   | false =>
    have hr2:r=false:=by rw [hr,hs];rfl
    subst hr2
    clear hr hs
    go_wp2_with fail
    go_ret
    exact ⟨rfl,HB.out⟩
  by_cases h9:sg.toList=[62]
  ·skip
   have hs:sg.toList=[62]:=h9
   clear h9
   have q43:(sg.toList == [43])=false:=by rw [hs];rfl
   have q45:(sg.toList == [45])=false:=by rw [hs];rfl
   have q42:(sg.toList == [42])=false:=by rw [hs];rfl
   have q47:(sg.toList == [47])=false:=by rw [hs];rfl
   have q37:(sg.toList == [37])=false:=by rw [hs];rfl
   have q61_61:(sg.toList == [61,61])=false:=by rw [hs];rfl
   have q33_61:(sg.toList == [33,61])=false:=by rw [hs];rfl
   have q60:(sg.toList == [60])=false:=by rw [hs];rfl
   have q60_61:(sg.toList == [60,61])=false:=by rw [hs];rfl
   have q62:(sg.toList == [62])=true:=by rw [hs];rfl
   have q62_61:(sg.toList == [62,61])=false:=by rw [hs];rfl
   cases ints with
   | true =>
    have hr2:r=t2:=by rw [hr,hs];rfl
    subst hr2
    clear hr hs
    go_wp2_with (go_at_call 197;refine (CT2.out _ HB.out).mono ?_;rintro e w1 ⟨rfl,hb1⟩;have HF:=jH (jB HB.out hb1);clear hb1)
    go_ret
    exact ⟨rfl,HF.out⟩
   | false =>
    have hr2:r=false:=by rw [hr,hs];rfl
    subst hr2
    clear hr hs
    go_wp2_with fail
    go_ret
    exact ⟨rfl,HB.out⟩
  by_cases h10:sg.toList=[62,61]
  ·skip
   have hs:sg.toList=[62,61]:=h10
   clear h10
   have q43:(sg.toList == [43])=false:=by rw [hs];rfl
   have q45:(sg.toList == [45])=false:=by rw [hs];rfl
   have q42:(sg.toList == [42])=false:=by rw [hs];rfl
   have q47:(sg.toList == [47])=false:=by rw [hs];rfl
   have q37:(sg.toList == [37])=false:=by rw [hs];rfl
   have q61_61:(sg.toList == [61,61])=false:=by rw [hs];rfl
   have q33_61:(sg.toList == [33,61])=false:=by rw [hs];rfl
   have q60:(sg.toList == [60])=false:=by rw [hs];rfl
   have q60_61:(sg.toList == [60,61])=false:=by rw [hs];rfl
   have q62:(sg.toList == [62])=false:=by rw [hs];rfl
   have q62_61:(sg.toList == [62,61])=true:=by rw [hs];rfl
   cases ints with
   | true =>
    have hr2:r=t2:=by rw [hr,hs];rfl
    subst hr2
    clear hr hs
    go_wp2_with (go_at_call 197;refine (CT2.out _ HB.out).mono ?_;rintro e w1 ⟨rfl,hb1⟩;have HF:=jH (jB HB.out hb1);clear hb1)
    go_ret
    exact ⟨rfl,HF.out⟩
   | false =>
    have hr2:r=false:=by rw [hr,hs];rfl
    subst hr2
    clear hr hs
    go_wp2_with fail
    go_ret
    exact ⟨rfl,HB.out⟩
  have q43:(sg.toList == [43])=false:=by simpa using h0
  have q45:(sg.toList == [45])=false:=by simpa using h1
  have q42:(sg.toList == [42])=false:=by simpa using h2
  have q47:(sg.toList == [47])=false:=by simpa using h3
  have q37:(sg.toList == [37])=false:=by simpa using h4
  have q61_61:(sg.toList == [61,61])=false:=by simpa using h5
  have q33_61:(sg.toList == [33,61])=false:=by simpa using h6
  have q60:(sg.toList == [60])=false:=by simpa using h7
  have q60_61:(sg.toList == [60,61])=false:=by simpa using h8
  have q62:(sg.toList == [62])=false:=by simpa using h9
  have q62_61:(sg.toList == [62,61])=false:=by simpa using h10
  have hr2:r=false:=by rw [hr];simp [binB,isSum,isEq,isLess,h0,h1,h2,h3,h4,h5,h6,h7,h8,h9,h10]
  subst hr2
  clear hr h0 h1 h2 h3 h4 h5 h6 h7 h8 h9 h10
  go_wp2_with fail
  go_ret
  exact ⟨rfl,HB.out⟩
theorem alikeL_iff:∀ (l m:List Ch),alikeL l m=true↔l.length=m.length∧∀ (j:Nat) (c d:Ch),l[j]?=some c→m[j]?=some d→alikeB c d=true
 | [],[]=>by simp [alikeL]
 | [],_::_=>by simp [alikeL]
 | _::_,[]=>by simp [alikeL]
 | c::l,d::m=>by
  simp only [alikeL,Bool.and_eq_true,alikeL_iff l m,List.length_cons]
  constructor
  ·rintro ⟨h1,h2,h3⟩
   refine ⟨by omega,fun j c' d' hc hd=>?_⟩
   cases j with
   | zero=>simp at hc hd;subst hc hd;exact h1
   | succ j=>exact h3 j c' d' (by simpa using hc) (by simpa using hd)
  ·rintro ⟨h1,h2⟩
   exact ⟨h2 0 c d rfl rfl,by omega,fun j c' d' hc hd=>h2 (j+1) c' d' (by simpa using hc) (by simpa using hd)⟩
theorem alikeL_len {l m:List Ch} (h:l.length≠m.length):alikeL l m=false:=by
 cases hh:alikeL l m with
 | false=>rfl
 | true=>exact absurd ((alikeL_iff l m).1 hh).1 h
theorem alikeL_no {l m:List Ch} {j:Nat} {c d:Ch} (hc:l[j]?=some c) (hd:m[j]?=some d) (h:alikeB c d=false):alikeL l m=false:=by
 cases hh:alikeL l m with
 | false=>rfl
 | true=>rw [((alikeL_iff l m).1 hh).2 j c d hc hd] at h;cases h
theorem eqT_any (w:World) (a a':Option Addr) (n n' cap cap':Nat) (cl dl:List Ch) (h:LcAt w a n cap (cl.map Ch.ty)) (h':LcAt w a' n' cap' (dl.map Ch.ty)) (hn:n≤2000000) (hn':n'≤2000000) (hc:∀ c∈cl,Ok c) (hd:∀ d∈dl,Ok d) (r:Bool) (hr:r=alikeL cl dl) :
  Calls Tryz.prog 218 #[.slice a n cap,.slice a' n' cap',fnV 21] w fun e w'=>e=.returned (.bool r)∧Below w.heap.size w w':=by
 have l1:n=cl.length:=by have:=h.len;rw [List.length_map] at this;exact this
 have l2:n'=dl.length:=by have:=h'.len;rw [List.length_map] at this;exact this
 by_cases hl:n=n'
 rotate_left
 ·have hr2:r=false:=by rw [hr];exact alikeL_len (by omega)
  subst hr2
  have hl2:¬ (n:Int)=(n':Int):=by omega
  have hl3:((n:Int) == (n':Int))=false:=by simpa using hl2
  have hl4:((n:Int) != (n':Int))=true:=by simpa using hl2
  clear h h' hc hd hr l1 l2 hn hn'
  go_enter Tryz.func218,Tryz.ntmps218
  go_wp2_with fail
  go_ret
  exact ⟨rfl,Below.refl _ _⟩
 subst hl
 have CA:Hid (∀ (W:World) (i:Nat) (c d:Ch) (f g:Fv),Below w.heap.size w W→cl[i]?=some c→dl[i]?=some d→TyAt w f c.ty→TyAt w g d.ty→Calls Tryz.prog 21 #[f.v,g.v] W fun e w'=>e=.returned (.bool (alikeB c d))∧Below W.heap.size W w'):=fun W i c d f g hW h1 h2 h3 h4=>Alike_yes c d f g W (h3.bel hW) (h4.bel hW) (hc c (List.mem_of_getElem? h1)) (hd d (List.mem_of_getElem? h2))
 have HL:=jH (And.intro l1 l2)
 have H:=jH h
 have H':=jH h'
 have HR:=jH hr
 have n0:(n:Int)≤2000000:=by omega
 clear h h' l1 l2 hr hn hn' hc hd
 go_enter Tryz.func218,Tryz.ntmps218
 go_wp2_with fail
 go_loopw [17] (fun v V=>∃ i:Nat,i≤n∧v=.int .i64 (i:Int)∧(∀ j c d,j<i→cl[j]?=some c→dl[j]?=some d→alikeB c d=true)∧Below w.heap.size w V) (fun v _=>n - (intOf v).toNat)
 case atStart=>exact ⟨0,Nat.zero_le _,rfl,fun j c d hj=>by omega,Below.refl _ _⟩
 case round =>
  obtain ⟨i,hi,rfl,hall,hB⟩:=hrel
  have HA:=jH hall
  have HB:=jH hB
  clear hall hB
  by_cases hlt:i<n
  ·obtain ⟨c,hc⟩:∃ c,cl[i]?=some c:=⟨_,List.getElem?_eq_getElem (by have:=HL.out.1;omega)⟩
   obtain ⟨d,hd⟩:∃ d,dl[i]?=some d:=⟨_,List.getElem?_eq_getElem (by have:=HL.out.2;omega)⟩
   have hty:(cl.map Ch.ty)[i]?=some c.ty:=by rw [List.getElem?_map,hc];rfl
   have hty':(dl.map Ch.ty)[i]?=some d.ty:=by rw [List.getElem?_map,hd];rfl
   obtain ⟨g,off,V,ea,hc5,hT⟩:=H.out.one hty
   obtain ⟨g',off',V',ea',hc5',hT'⟩:=H'.out.one hty'
   have ea2:a=some ⟨g,off,none⟩:=ea
   have ea2':a'=some ⟨g',off',none⟩:=ea'
   subst ea2
   subst ea2'
   obtain ⟨hg,p0,p1,p2,p3,p4⟩:=hc5.below HB.out
   obtain ⟨hg',q0,q1,q2,q3,q4⟩:=hc5'.below HB.out
   obtain ⟨kk,mm,rr,ss,aa,nn,cc⟩:=V
   obtain ⟨kk',mm',rr',ss',aa',nn',cc'⟩:=V'
   obtain ⟨x,hx⟩:∃ x,x=alikeB c d:=⟨_,rfl⟩
   have CC:Hid (∀ W,Below w.heap.size w W→Calls Tryz.prog 21 #[tyV kk mm rr ss aa nn cc,tyV kk' mm' rr' ss' aa' nn' cc'] W fun e w'=>e=.returned (.bool x)∧Below W.heap.size W w'):=fun W hW=>by rw [hx];exact CA.out W i c d ⟨kk,mm,rr,ss,aa,nn,cc⟩ ⟨kk',mm',rr',ss',aa',nn',cc'⟩ hW hc hd hT hT'
   have i0:(0:Int)≤(i:Int):=by omega
   have i1:(i:Int)<(n:Int):=by omega
   have HLT:=jH hlt
   have HC:=jH hc
   have HD:=jH hd
   have HX:=jH hx
   have HBA:Hid (∀ o1 o2,Below w.heap.size w ((wr.alloc o1).alloc o2)):=fun o1 o2=>belA (belA HB.out)
   clear hc5 hc5' hT hT' hty hty' hc hd hlt ea ea' hi hx CA
   cases x with
   | true =>
    go_wp2_with (go_at_call 21;refine (CC.out _ (HBA.out _ _)).mono ?_;rintro e w1 ⟨rfl,hb1⟩;have HF:=jH (jB (HBA.out _ _) hb1);clear hb1)
    refine ⟨⟨i+1,HLT.out,rfl,fun j c' d' hj hc' hd'=>?_,HF.out⟩,?_⟩
    ·rcases Nat.lt_or_ge j i with h1|h1
     ·exact HA.out j c' d' h1 hc' hd'
     ·obtain rfl:j=i:=by omega
      have e1:=HC.out
      have e2:=HD.out
      rw [hc'] at e1
      rw [hd'] at e2
      cases e1
      cases e2
      exact HX.out.symm
    ·show n - ((i:Int)+1).toNat<n - (i:Int).toNat
     have:=HLT.out
     omega
   | false =>
    go_wp2_with (go_at_call 21;refine (CC.out _ (HBA.out _ _)).mono ?_;rintro e w1 ⟨rfl,hb1⟩;have HF:=jH (jB (HBA.out _ _) hb1);clear hb1)
    go_ret
    refine ⟨?_,HF.out⟩
    have:r=false:=by rw [HR.out];exact alikeL_no HC.out HD.out HX.out.symm
    rw [this]
    rfl
  ·obtain rfl:i=n:=by omega
   have lt:¬ (i:Int)<(i:Int):=by omega
   clear hlt hi CA
   go_wp2_with fail
   go_ret
   refine ⟨?_,HB.out⟩
   have:r=true:=by
    rw [HR.out,alikeL_iff]
    refine ⟨by have:=HL.out;omega,fun j c d hc hd=>HA.out j c d ?_ hc hd⟩
    have:=(List.getElem?_eq_some_iff.1 hc).1
    have:=HL.out.1
    omega
   rw [this]
   rfl
theorem fldAl_any (w:World) (nm:ByteArray) (kk:Nat) (mm:Bool) (rr ss:Int) (aa:Option Addr) (nn cc kk':Nat) (mm':Bool) (rr' ss':Int) (aa':Option Addr) (nn' cc':Nat) (x:Bool)
  (h:∀ W,Below w.heap.size w W→Calls Tryz.prog 21 #[tyV kk mm rr ss aa nn cc,tyV kk' mm' rr' ss' aa' nn' cc'] W fun e w'=>e=.returned (.bool x)∧Below W.heap.size W w') :
  Calls Tryz.prog 217 #[.agg #[.string nm,.int .u8 (kk:Int),.bool mm,.int .i64 rr,.int .i64 ss,.slice aa nn cc],tyV kk' mm' rr' ss' aa' nn' cc'] w fun e w'=>e=.returned (.bool x)∧Below w.heap.size w w':=by
 have H:=jH h
 have HB:Hid (∀ o1 o2,Below w.heap.size w ((w.alloc o1).alloc o2)):=fun o1 o2=>belA (belA bR)
 clear h
 go_enter Tryz.func217,Tryz.ntmps217
 go_wp2_with (go_at_call 21;refine (H.out _ (HB.out _ _)).mono ?_;rintro e w1 ⟨rfl,hb1⟩;have HF:=jH (jB (HB.out _ _) hb1);clear hb1)
 go_ret
 exact ⟨rfl,HF.out⟩
theorem eqF_any (w:World) (a a':Option Addr) (n n' cap cap':Nat) (cl dl:List Ch) (h:FdAt w a (cl.map Ch.ty)) (l1:n=cl.length) (h':LcAt w a' n' cap' (dl.map Ch.ty)) (hn:n≤2000000) (hn':n'≤2000000) (hc:∀ c∈cl,Ok c) (hd:∀ d∈dl,Ok d) (r:Bool) (hr:r=alikeL cl dl) :
  Calls Tryz.prog 216 #[.slice a n cap,.slice a' n' cap',fnV 217] w fun e w'=>e=.returned (.bool r)∧Below w.heap.size w w':=by
 have l2:n'=dl.length:=by have:=h'.len;rw [List.length_map] at this;exact this
 by_cases hl:n=n'
 rotate_left
 ·have hr2:r=false:=by rw [hr];exact alikeL_len (by omega)
  subst hr2
  have hl2:¬ (n:Int)=(n':Int):=by omega
  have hl3:((n:Int) == (n':Int))=false:=by simpa using hl2
  have hl4:((n:Int) != (n':Int))=true:=by simpa using hl2
  clear h h' hc hd hr l1 l2 hn hn'
  go_enter Tryz.func216,Tryz.ntmps216
  go_wp2_with fail
  go_ret
  exact ⟨rfl,Below.refl _ _⟩
 subst hl
 have CA:Hid (∀ (W:World) (i:Nat) (c d:Ch) (f g:Fv),Below w.heap.size w W→cl[i]?=some c→dl[i]?=some d→TyAt w f c.ty→TyAt w g d.ty→Calls Tryz.prog 21 #[f.v,g.v] W fun e w'=>e=.returned (.bool (alikeB c d))∧Below W.heap.size W w'):=fun W i c d f g hW h1 h2 h3 h4=>Alike_yes c d f g W (h3.bel hW) (h4.bel hW) (hc c (List.mem_of_getElem? h1)) (hd d (List.mem_of_getElem? h2))
 have HL:=jH (And.intro l1 l2)
 have H:=jH h
 have H':=jH h'
 have HR:=jH hr
 have n0:(n:Int)≤2000000:=by omega
 clear h h' l1 l2 hr hn hn' hc hd
 go_enter Tryz.func216,Tryz.ntmps216
 go_wp2_with fail
 go_loopw [17] (fun v V=>∃ i:Nat,i≤n∧v=.int .i64 (i:Int)∧(∀ j c d,j<i→cl[j]?=some c→dl[j]?=some d→alikeB c d=true)∧Below w.heap.size w V) (fun v _=>n - (intOf v).toNat)
 case atStart=>exact ⟨0,Nat.zero_le _,rfl,fun j c d hj=>by omega,Below.refl _ _⟩
 case round =>
  obtain ⟨i,hi,rfl,hall,hB⟩:=hrel
  have HA:=jH hall
  have HB:=jH hB
  clear hall hB
  by_cases hlt:i<n
  ·obtain ⟨c,hc⟩:∃ c,cl[i]?=some c:=⟨_,List.getElem?_eq_getElem (by have:=HL.out.1;omega)⟩
   obtain ⟨d,hd⟩:∃ d,dl[i]?=some d:=⟨_,List.getElem?_eq_getElem (by have:=HL.out.2;omega)⟩
   have hty:(cl.map Ch.ty)[i]?=some c.ty:=by rw [List.getElem?_map,hc];rfl
   have hty':(dl.map Ch.ty)[i]?=some d.ty:=by rw [List.getElem?_map,hd];rfl
   obtain ⟨g,off,ea,hk⟩:=H.out.2 (fun e=>by rw [e] at hty;simp at hty)
   obtain ⟨V,nm,hnm,hc5,hT⟩:=hk i c.ty hty
   replace hnm:=(HB.out.cell (p:=⟨g,off+i*6,none⟩) hc5.1).trans hnm
   obtain ⟨g',off',V',ea',hc5',hT'⟩:=H'.out.one hty'
   have ea2:a=some ⟨g,off,none⟩:=ea
   have ea2':a'=some ⟨g',off',none⟩:=ea'
   subst ea2
   subst ea2'
   obtain ⟨hg,p0,p1,p2,p3,p4⟩:=hc5.below HB.out
   obtain ⟨hg',q0,q1,q2,q3,q4⟩:=hc5'.below HB.out
   obtain ⟨kk,mm,rr,ss,aa,nn,cc⟩:=V
   obtain ⟨kk',mm',rr',ss',aa',nn',cc'⟩:=V'
   obtain ⟨x,hx⟩:∃ x,x=alikeB c d:=⟨_,rfl⟩
   have CC:Hid (∀ W,Below w.heap.size w W→Calls Tryz.prog 217 #[.agg #[.string nm,.int .u8 (kk:Int),.bool mm,.int .i64 rr,.int .i64 ss,.slice aa nn cc],tyV kk' mm' rr' ss' aa' nn' cc'] W fun e w'=>e=.returned (.bool x)∧Below W.heap.size W w'):=fun W hW=>fldAl_any W nm kk mm rr ss aa nn cc kk' mm' rr' ss' aa' nn' cc' x (fun W2 hW2=>by rw [hx];exact CA.out W2 i c d ⟨kk,mm,rr,ss,aa,nn,cc⟩ ⟨kk',mm',rr',ss',aa',nn',cc'⟩ (jB hW hW2) hc hd hT hT')
   have i0:(0:Int)≤(i:Int):=by omega
   have i1:(i:Int)<(n:Int):=by omega
   have HLT:=jH hlt
   have HC:=jH hc
   have HD:=jH hd
   have HX:=jH hx
   have HBA:Hid (∀ o1 o2,Below w.heap.size w ((wr.alloc o1).alloc o2)):=fun o1 o2=>belA (belA HB.out)
   clear hk hc5 hc5' hT hT' hty hty' hc hd hlt ea ea' hi hx CA
   cases x with
   | true =>
    go_wp2_with (go_at_call 217;refine (CC.out _ (HBA.out _ _)).mono ?_;rintro e w1 ⟨rfl,hb1⟩;have HF:=jH (jB (HBA.out _ _) hb1);clear hb1)
    refine ⟨⟨i+1,HLT.out,rfl,fun j c' d' hj hc' hd'=>?_,HF.out⟩,?_⟩
    ·rcases Nat.lt_or_ge j i with h1|h1
     ·exact HA.out j c' d' h1 hc' hd'
     ·obtain rfl:j=i:=by omega
      have e1:=HC.out
      have e2:=HD.out
      rw [hc'] at e1
      rw [hd'] at e2
      cases e1
      cases e2
      exact HX.out.symm
    ·show n - ((i:Int)+1).toNat<n - (i:Int).toNat
     have:=HLT.out
     omega
   | false =>
    go_wp2_with (go_at_call 217;refine (CC.out _ (HBA.out _ _)).mono ?_;rintro e w1 ⟨rfl,hb1⟩;have HF:=jH (jB (HBA.out _ _) hb1);clear hb1)
    go_ret
    refine ⟨?_,HF.out⟩
    have:r=false:=by rw [HR.out];exact alikeL_no HC.out HD.out HX.out.symm
    rw [this]
    rfl
  ·obtain rfl:i=n:=by omega
   have lt:¬ (i:Int)<(i:Int):=by omega
   clear hlt hi CA
   go_wp2_with fail
   go_ret
   refine ⟨?_,HB.out⟩
   have:r=true:=by
    rw [HR.out,alikeL_iff]
    refine ⟨by have:=HL.out;omega,fun j c d hc hd=>HA.out j c d ?_ hc hd⟩
    have:=(List.getElem?_eq_some_iff.1 hc).1
    have:=HL.out.1
    omega
   rw [this]
   rfl
end Go.Proofs.YtmjenlogbkbgnaaGreatDoor
