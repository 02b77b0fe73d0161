import Derived.Test.YtmjenlogbkbgnaaGreatDoorE01
import Derived.Test.YtmjenlogbkbgnaaGreatDoorC03
namespace Go.Proofs.YtmjenlogbkbgnaaGreatDoor
open Go.RowKit Go.Shelf
set_option linter.unusedVariables false
set_option linter.unusedSimpArgs false
set_option maxRecDepth 100000
set_option maxHeartbeats 8000000
def bw (z:Int) (j:Nat):Bool:=z.toNat.testBit j
def bt (zs:List Int) (k:Nat):Bool:=bw (zs.getD (k / 64) 0) (k % 64)
theorem bw_div {z:Int} (j:Nat) (h0:0≤z):(z / 2 ^ j % 2 == 1)=bw z j:=by
 obtain ⟨k,rfl⟩:=Int.eq_ofNat_of_zero_le h0
 unfold bw
 rw [Int.toNat_natCast,Nat.testBit_eq_decide_div_mod_eq]
 have e:((k:Int) / 2 ^ j % 2)=((k / 2 ^ j % 2:Nat):Int):=by simp
 rw [e]
 by_cases h:k / 2 ^ j % 2=1
 ·simp [h]
 ·have h2:k / 2 ^ j % 2=0:=by omega
  simp [h2]
theorem div_word {z:Int} (j:Nat) (h0:0≤z) (h1:z<18446744073709551616):0≤z / 2 ^ j∧z / 2 ^ j≤18446744073709551615 :=
 ⟨Int.ediv_nonneg h0 (Int.le_of_lt (Int.pow_pos (by decide))),by have:=Int.ediv_le_self (2 ^ j) h0;omega⟩
theorem shr_and (z:Int) (j:Nat) (h0:0≤z) (h1:z<18446744073709551616):bits .and .u64 (z / 2 ^ j) 1=z / 2 ^ j % 2 :=
 and_one_u64 _ (div_word j h0 h1).1 (div_word j h0 h1).2
theorem high_iff {z:Int} (u:Nat) (h0:0≤z) (h1:z<18446744073709551616):(z / 2 ^ u == 0)=true↔∀ j,u≤j→j<64→bw z j=false:=by
 obtain ⟨k,rfl⟩:=Int.eq_ofNat_of_zero_le h0
 have e:((k:Int) / 2 ^ u)=((k / 2 ^ u:Nat):Int):=by simp
 unfold bw
 rw [Int.toNat_natCast,e]
 constructor
 ·intro h j hj _
  have h2:k / 2 ^ u=0:=by simp at h;omega
  have h3:k<2 ^ u:=by
   rcases Nat.lt_or_ge k (2 ^ u) with h'|h'
   ·exact h'
   ·have:=Nat.div_pos h' (Nat.two_pow_pos u);omega
  exact Nat.testBit_lt_two_pow (Nat.lt_of_lt_of_le h3 (Nat.pow_le_pow_right (by omega) hj))
 ·intro h
  have:k / 2 ^ u=0:=by
   apply Nat.eq_of_testBit_eq
   intro i
   rw [Nat.testBit_div_two_pow,Nat.zero_testBit]
   by_cases hi:i+u<64
   ·exact h (i+u) (by omega) hi
   ·exact Nat.testBit_lt_two_pow (Nat.lt_of_lt_of_le (show k<2 ^ 64 by omega) (Nat.pow_le_pow_right (by omega) (by omega)))
  rw [this]
  rfl
theorem may_bits {x:Nat} {zs:List Int} (h1:x≤1032) (hn:(zs.length:Int)=((x:Int)+63) / 64) (hw:∀ z∈zs,0≤z∧z<18446744073709551616):mayR (x:Int) zs=true↔∀ k,x≤k→k<64*zs.length→bt zs k=false:=by
 have e1:decide (0≤(x:Int))=true:=by simp
 have e2:decide ((x:Int)≤1032)=true:=by simp;omega
 have e3:decide ((zs.length:Int)=((x:Int)+63) / 64)=true:=by simpa using hn
 unfold mayR
 rw [e1,e2,e3]
 simp only [Bool.true_and]
 rcases Nat.eq_zero_or_pos zs.length with hl|hl
 ·have hx:x=0:=by omega
  subst hx
  simp [hl]
 ·have hlast:zs.getD (zs.length - 1) 0∈zs:=by
   rw [List.getD_eq_getElem?_getD,List.getElem?_eq_getElem (by omega)]
   exact List.getElem_mem _
  obtain ⟨z0,z1⟩:=hw _ hlast
  have hto:((x:Int) % 64).toNat=x % 64:=by omega
  rw [hto]
  by_cases hm:x % 64=0
  ·have e4:decide ((x:Int) % 64=0)=true:=by simp;omega
   rw [e4]
   simp only [Bool.true_or,true_iff]
   intro k h2 h3
   omega
  ·have e4:decide ((x:Int) % 64=0)=false:=by simp;omega
   rw [e4,Bool.false_or,high_iff _ z0 z1]
   constructor
   ·intro h k h2 h3
    unfold bt
    have e5:k / 64=zs.length - 1:=by omega
    rw [e5]
    exact h _ (by omega) (by omega)
   ·intro h j h2 h3
    have:=h (64*(zs.length - 1)+j) (by omega) (by omega)
    unfold bt at this
    have e5:(64*(zs.length - 1)+j) / 64=zs.length - 1:=by omega
    have e6:(64*(zs.length - 1)+j) % 64=j:=by omega
    rw [e5,e6] at this
    exact this
theorem rIs_any (r:Rw) (k:Nat) (w:World) (h:RwAt w r) (hk:k<64*r.zs.length) (hb:r.zs.length≤100):Calls Tryz.prog 78 #[r.v,.int .i64 (k:Int)] w fun e w'=>e=.returned (.bool (bt r.zs k))∧Below w.heap.size w w':=by
 have HA:=jH (At.new w r.o)
 obtain ⟨c0,c1⟩:=HA.out.rwo
 have hc:=h.c.bel (belA (Below.refl w.heap.size w) (o:=r.o))
 have hw:=h.wd
 obtain ⟨x,a,cap,zs⟩:=r
 simp only at c0 c1 hc hw hk hb ⊢
 obtain ⟨g,off,rfl,hg,hcc⟩:=hc (by intro hh;simp [hh] at hk)
 obtain ⟨q,hq⟩:∃ q,q=k / 64:=⟨_,rfl⟩
 obtain ⟨u,hu⟩:∃ u,u=k % 64:=⟨_,rfl⟩
 obtain ⟨z,hz⟩:∃ z,zs[q]?=some z:=⟨_,List.getElem?_eq_getElem (by omega)⟩
 have cz:=hcc _ _ hz
 obtain ⟨hz0,hz1⟩:=hw _ (List.mem_of_getElem? hz)
 have hbt:bt zs k=bw z u:=by
  unfold bt
  rw [← hq,← hu,List.getD_eq_getElem?_getD,hz]
  rfl
 have hs:=shr_and z u hz0 hz1
 have hs2:=bw_div u hz0
 obtain ⟨bo,hbo⟩:∃ bo,bo=z / 2 ^ u % 2:=⟨_,rfl⟩
 rw [← hbo] at hs hs2
 obtain ⟨bb,hbb⟩:∃ bb,bb=bw z u:=⟨_,rfl⟩
 rw [← hbb] at hs2
 rw [hbt,← hbb]
 have q1:(k:Int).tdiv 64=(q:Int):=by rw [Int.tdiv_eq_ediv_of_nonneg (by omega)];omega
 have q2:(k:Int) / 64=(q:Int):=by omega
 have r1:(k:Int).tmod 64=(u:Int):=by rw [Int.tmod_eq_emod_of_nonneg (by omega)];omega
 have r2:(k:Int) % 64=(u:Int):=by omega
 have q3:(q:Int)<(zs.length:Int):=by omega
 have q4:(0:Int)≤(q:Int):=by omega
 have q5:(q:Int)≤100:=by omega
 have u0:(0:Int)≤(u:Int):=by omega
 have u1:(u:Int)<64:=by omega
 clear h hw hcc hz hbt hbo hbb hq hu hk hb hc
 go_enter Tryz.func78,Tryz.ntmps78
 go_wp2_with fail
 go_ret
 exact ⟨rfl,belA bR⟩
theorem rMay_any (r:Rw) (w:World) (h:RwAt w r):Calls Tryz.prog 44 #[r.v] w fun e w'=>e=.returned (.bool (mayR r.x r.zs))∧Below w.heap.size w w':=by
 have HA:=jH (At.new w r.o)
 obtain ⟨c0,c1⟩:=HA.out.rwo
 have hc:=h.c.bel (belA (Below.refl w.heap.size w) (o:=r.o))
 have hw:=h.wd
 have hbig:=h.big
 obtain ⟨x,a,cap,zs⟩:=r
 simp only at c0 c1 hc hw hbig ⊢
 clear h
 by_cases h0:x<0
 ·have e:mayR x zs=false:=by
   unfold mayR
   have:decide (0≤x)=false:=by simp;omega
   rw [this];rfl
  rw [e]
  clear hc hw
  go_enter Tryz.func44,Tryz.ntmps44
  go_wp2_with fail
  go_ret
  exact ⟨rfl,belA bR⟩
 by_cases h1:1032<x
 ·have e:mayR x zs=false:=by
   unfold mayR
   have:decide (x≤1032)=false:=by simp;omega
   rw [this];simp
  rw [e]
  clear hc hw
  go_enter Tryz.func44,Tryz.ntmps44
  go_wp2_with fail
  go_ret
  exact ⟨rfl,belA bR⟩
 have hq:(x+63).tdiv 64=(x+63) / 64:=by rw [Int.tdiv_eq_ediv_of_nonneg (by omega)]
 by_cases hn:(zs.length:Int)=(x+63) / 64
 ·obtain ⟨xn,rfl⟩:=Int.eq_ofNat_of_zero_le (by omega:0≤x)
  have HMB:=jH (may_bits (x:=xn) (by omega) hn hw)
  have hne:((zs.length:Int) != ((xn:Int)+63) / 64)=false:=by simpa using hn
  have hb:(zs.length:Int)≤100:=by omega
  have HN:=jH hn
  have HW:=jH hw
  have HC:=jH hc
  have HX:Hid (xn≤64*zs.length∧64*zs.length<xn+64):=jH (by omega)
  have x0:(0:Int)≤(xn:Int):=by omega
  have x1:(xn:Int)≤1032:=by omega
  clear hn hc hw hbig
  go_enter Tryz.func44,Tryz.ntmps44
  go_wp2_with fail
  go_loopw [3] (fun v V=>∃ k:Nat,k≤64*zs.length∧xn≤k∧v=.int .i64 (k:Int)∧(∀ j,xn≤j→j<k→bt zs j=false)∧V=w.alloc (.cells #[.int .i64 (xn:Int),.slice a zs.length cap] 48)) (fun v _=>64*zs.length - (intOf v).toNat)
  case atStart=>exact ⟨xn,HX.out.1,Nat.le_refl _,rfl,fun j h1 h2=>by omega,rfl⟩
  case round =>
   obtain ⟨k,hk,hxk,rfl,hz,hV⟩:=hrel
   replace hV:=hV.symm
   subst hV
   have HZ:=jH hz
   clear hz
   by_cases hlt:k<64*zs.length
   ·obtain ⟨g,off,rfl,hg,hcc⟩:=HC.out (by intro hh;simp [hh] at hlt)
    obtain ⟨q,hq'⟩:∃ q,q=k / 64:=⟨_,rfl⟩
    obtain ⟨u,hu⟩:∃ u,u=k % 64:=⟨_,rfl⟩
    obtain ⟨z,hz⟩:∃ z,zs[q]?=some z:=⟨_,List.getElem?_eq_getElem (by omega)⟩
    have cz:=hcc _ _ hz
    obtain ⟨hz0,hz1⟩:=HW.out _ (List.mem_of_getElem? hz)
    have hbt:bt zs k=bw z u:=by
     unfold bt
     rw [← hq',← hu,List.getD_eq_getElem?_getD,hz]
     rfl
    have hs:=shr_and z u hz0 hz1
    have hs2:=bw_div u hz0
    obtain ⟨bo,hbo⟩:∃ bo,bo=z / 2 ^ u % 2:=⟨_,rfl⟩
    rw [← hbo] at hs hs2
    rw [← hbt] at hs2
    have q1:(k:Int).tdiv 64=(q:Int):=by rw [Int.tdiv_eq_ediv_of_nonneg (by omega)];omega
    have q2:(k:Int) / 64=(q:Int):=by omega
    have r1:(k:Int).tmod 64=(u:Int):=by rw [Int.tmod_eq_emod_of_nonneg (by omega)];omega
    have r2:(k:Int) % 64=(u:Int):=by omega
    have q3:(q:Int)<(zs.length:Int):=by omega
    have q4:(0:Int)≤(q:Int):=by omega
    have q5:(q:Int)≤100:=by omega
    have u0:(0:Int)≤(u:Int):=by omega
    have u1:(u:Int)<64:=by omega
    have l0:(k:Int)<64*(zs.length:Int):=by omega
    have k0:(0:Int)≤(k:Int):=by omega
    have HLT:=jH hlt
    have HXK:=jH hxk
    cases hbk:bt zs k with
    | true =>
     rw [hbk] at hs2
     have e:mayR (xn:Int) zs=false:=by
      cases hm:mayR (xn:Int) zs with
      | false=>rfl
      | true =>
       have:=HMB.out.1 hm k hxk hlt
       rw [hbk] at this;cases this
     have HE:=jH e
     clear e hcc hz hbt hbo hq' hu hk hlt hxk hbk
     as_aux_lemma =>
      go_wp2_with fail
      go_ret
      exact ⟨by first|exact HE.out|exact HE.out.symm|(simp [HE.out];done),belA bR⟩
    | false =>
     rw [hbk] at hs2
     have HBK:=jH hbk
     clear hcc hz hbt hbo hq' hu hk hlt hxk hbk
     as_aux_lemma =>
      go_wp2_with fail
      go_roundw
      case rel =>
       refine ⟨k+1,HLT.out,by have:=HXK.out;omega,by go_num,fun j h1 h2=>?_,trivial⟩
       rcases Nat.lt_or_ge j k with h|h
       ·exact HZ.out j h1 h
       ·obtain rfl:j=k:=by omega
        exact HBK.out
      case measure=>have:=HLT.out;simp [intOf];omega
   ·obtain rfl:k=64*zs.length:=by omega
    have e:mayR (xn:Int) zs=true:=HMB.out.2 HZ.out
    have HE:=jH e
    have l0:¬ ((64*zs.length:Nat):Int)<64*(zs.length:Int):=by omega
    clear hlt hk hxk e
    go_wp2_with fail
    go_ret
    exact ⟨by first|exact HE.out|exact HE.out.symm|(simp [HE.out];done),belA bR⟩
 ·have hne:((zs.length:Int) != (x+63) / 64)=true:=by simpa using hn
  have e:mayR x zs=false:=by
   unfold mayR
   have:decide ((zs.length:Int)=(x+63) / 64)=false:=by simpa using hn
   rw [this];simp
  rw [e]
  unfold maxLen at hbig
  clear hc hw hn
  go_enter Tryz.func44,Tryz.ntmps44
  go_wp2_with fail
  go_ret
  exact ⟨rfl,belA bR⟩
def lkb (r s:List Int) (k:Nat):Bool:=bt s k && !bt r k
def FI (r s:List Int) (N:Nat) (p:Int) (b:Bool):Prop:=(b=false∧p=0∧∀ k,k<N→lkb r s k=false)∨(b=true∧∃ k:Nat,k<N∧p=(k:Int)∧lkb r s k=true∧∀ j,j<k→lkb r s j=false)
theorem FI.unique {r s:List Int} {N:Nat} {p p':Int} {b b':Bool} (h:FI r s N p b) (h':FI r s N p' b'):p=p'∧b=b':=by
 rcases h with ⟨rfl,rfl,h1⟩|⟨rfl,k,hk,rfl,h1,h2⟩ <;> rcases h' with ⟨rfl,rfl,h3⟩|⟨rfl,k',hk',rfl,h3,h4⟩
 ·exact ⟨rfl,rfl⟩
 ·rw [h1 k' hk'] at h3;cases h3
 ·rw [h3 k hk] at h1;cases h1
 ·have:k=k':=by
   rcases Nat.lt_trichotomy k k' with h|h|h
   ·rw [h4 k h] at h1;cases h1
   ·exact h
   ·rw [h2 k' h] at h3;cases h3
  subst this
  exact ⟨rfl,rfl⟩
theorem FI.narrow {r s:List Int} {x:Nat} {p:Int} {b:Bool} (h:FI r s (64*s.length) p b) (hx:x≤64*s.length) (hm:∀ k,x≤k→k<64*s.length→bt s k=false):FI r s x p b:=by
 rcases h with ⟨rfl,rfl,h1⟩|⟨rfl,k,hk,rfl,h1,h2⟩
 ·exact .inl ⟨rfl,rfl,fun k hk=>h1 k (by omega)⟩
 ·refine .inr ⟨rfl,k,?_,rfl,h1,h2⟩
  rcases Nat.lt_or_ge k x with h|h
  ·exact h
  ·have:=hm k h hk
   unfold lkb at h1
   rw [this] at h1
   cases h1
theorem bw_ofInt {z:Int} {j:Nat} (h0:0≤z) (h1:z<18446744073709551616) (hj:j<64):(BitVec.ofInt 64 z).getLsbD j=bw z j:=by
 obtain ⟨k,rfl⟩:=Int.eq_ofNat_of_zero_le h0
 unfold bw
 rw [Int.toNat_natCast,BitVec.ofInt_natCast,BitVec.getLsbD_ofNat]
 simp [hj]
theorem bw_lk {s r:Int} {j:Nat} (hs:0≤s∧s<18446744073709551616) (hr:0≤r∧r<18446744073709551616) (hj:j<64):bw (lkW s r) j=(bw s j && !bw r j):=by
 rw [lkW_bv]
 unfold bw
 rw [Int.toNat_natCast,BitVec.testBit_toNat,BitVec.getLsbD_and,BitVec.getLsbD_not,bw_ofInt hs.1 hs.2 hj,bw_ofInt hr.1 hr.2 hj]
 simp [hj,bw]
theorem low_is {x:Nat} (h0:x≠0) (h1:x<18446744073709551616):Lib.ctz 64 x<64∧x.testBit (Lib.ctz 64 x)=true∧∀ j,j<Lib.ctz 64 x→x.testBit j=false:=by
 obtain ⟨m,hm,hk⟩:=Lib.ctzFrom_spec 64 x (by omega) h1
 have e:Lib.ctz 64 x=Lib.ctzFrom 64 x:=by simp [Lib.ctz,h0]
 rw [← e] at hm hk
 obtain ⟨q,hq⟩:∃ q,q=Lib.ctz 64 x:=⟨_,rfl⟩
 rw [← hq] at hm hk ⊢
 refine ⟨hk,?_,fun j hj=>?_⟩
 ·rw [hm,Nat.mul_comm,Nat.testBit_mul_two_pow]
  simp [Nat.testBit_zero]
 ·rw [hm,Nat.mul_comm,Nat.testBit_mul_two_pow]
  have:¬ q≤j:=by omega
  simp [this]
theorem getD_of {l:List Int} {i:Nat} {z:Int} (h:l[i]?=some z):l.getD i 0=z:=by simp [List.getD_eq_getElem?_getD,h]
theorem lkb_word {r s:List Int} {k:Nat} (hl:r.length=s.length) (hk:k<64*s.length) (hr:∀ z∈r,0≤z∧z<18446744073709551616) (hs:∀ z∈s,0≤z∧z<18446744073709551616):lkb r s k=bw (lkW (s.getD (k / 64) 0) (r.getD (k / 64) 0)) (k % 64):=by
 obtain ⟨p,hp⟩:∃ p,s[k / 64]?=some p:=⟨_,List.getElem?_eq_getElem (by omega)⟩
 obtain ⟨q,hq⟩:∃ p,r[k / 64]?=some p:=⟨_,List.getElem?_eq_getElem (by omega)⟩
 rw [bw_lk (by rw [getD_of hp];exact hs _ (List.mem_of_getElem? hp)) (by rw [getD_of hq];exact hr _ (List.mem_of_getElem? hq)) (by omega)]
 rfl
theorem bw_zero (j:Nat):bw 0 j=false:=by simp [bw]
theorem FI.none_ {r s:List Int} (hl:r.length=s.length) (h:∀ j,j<s.length→lkW (s.getD j 0) (r.getD j 0)=0) (hr:∀ z∈r,0≤z∧z<18446744073709551616) (hs:∀ z∈s,0≤z∧z<18446744073709551616):FI r s (64*s.length) 0 false :=
 .inl ⟨rfl,rfl,fun k hk=>by rw [lkb_word hl hk hr hs,h _ (by omega),bw_zero]⟩
theorem FI.found {r s:List Int} {i u:Nat} {p q:Int} (hl:r.length=s.length) (hi:i<s.length) (h:∀ j,j<i→lkW (s.getD j 0) (r.getD j 0)=0) (hp:s[i]?=some p) (hq:r[i]?=some q) (hu:lkW p q=(u:Int)) (h0:u≠0) (hr:∀ z∈r,0≤z∧z<18446744073709551616) (hs:∀ z∈s,0≤z∧z<18446744073709551616):FI r s (64*s.length) ((64*i+Lib.ctz 64 u:Nat):Int) true:=by
 have hub:u<18446744073709551616:=by have:=lkW_rng p q;omega
 obtain ⟨h1,h2,h3⟩:=low_is h0 hub
 refine .inr ⟨rfl,64*i+Lib.ctz 64 u,by omega,rfl,?_,fun j hj=>?_⟩
 ·rw [lkb_word hl (by omega) hr hs,show (64*i+Lib.ctz 64 u) / 64=i by omega,show (64*i+Lib.ctz 64 u) % 64=Lib.ctz 64 u by omega,getD_of hp,getD_of hq,hu]
  unfold bw
  rw [Int.toNat_natCast]
  exact h2
 ·rw [lkb_word hl (by omega) hr hs]
  rcases Nat.lt_or_ge (j / 64) i with h4|h4
  ·rw [h _ h4,bw_zero]
  ·have h5:j / 64=i:=by omega
   rw [h5,getD_of hp,getD_of hq,hu]
   unfold bw
   rw [Int.toNat_natCast]
   exact h3 _ (by omega)
def LkP (r s:List Int) (e:Ending):Prop:=∃ (p:Int) (lb:Bool),e=.returned (.tuple #[.int .i64 p,.bool lb])∧FI r s (64*s.length) p lb
theorem tzx_any (x:Nat) (hx:x<18446744073709551616) (hx0:x≠0) (w:World) (hT:TabZ w):Calls Tryz.prog 77 #[.int .u64 x] w fun e w'=>e=.returned (.int .i64 (Lib.ctz 64 x:Nat))∧w'=w:=by
 obtain ⟨hlow,hk⟩:=Lib.lowest_bit 64 x hx0 hx
 obtain ⟨hi,htab⟩:=Lib.deBruijn64_at _ hk
 have hcell:=hT _ hi
 rw [htab] at hcell
 exact tz_core x _ _ w (by simp;omega) (tz_key x _ hx hx0 hlow) hi hk hcell
theorem lackx_any (r s:Rw) (w:World) (hr:RwAt w r) (hs:RwAt w s) (hl:r.zs.length=s.zs.length) (hb:s.zs.length≤100) (hT:TabZ w):Calls Tryz.prog 43 #[r.v,s.v] w fun e w'=>LkP r.zs s.zs e∧Below w.heap.size w w':=by
 have HB:Hid (Below w.heap.size w ((w.alloc r.o).alloc s.o)):=jH (belA (belA bR))
 have HA:=jH ((At.new w r.o).alloc s.o)
 have HC:=jH (at_snd w r.o s.o)
 have HR:=jH (hr.bel HB.out)
 have HS:=jH (hs.bel HB.out)
 have HT:=jH (hT.bel HB.out)
 obtain ⟨x0,x1⟩:=HA.out.rwo
 obtain ⟨y0,y1⟩:=HC.out.rwo
 have HL:=jH hl
 have HRW:=jH hr.wd
 have HSW:=jH hs.wd
 have n1:(s.zs.length:Int)≤100:=by omega
 obtain ⟨rx,ra,rc,rz⟩:=r
 obtain ⟨sx,sa,sc,sz⟩:=s
 simp only at hl hb x0 x1 y0 y1 n1
 clear hr hs hT hl hb
 go_enter Tryz.func43,Tryz.ntmps43
 go_wp2_with fail
 go_loopw [12] (fun v V=>∃ i:Nat,i≤sz.length∧v=.int .i64 (i:Int)∧(∀ j,j<i→lkW (sz.getD j 0) (rz.getD j 0)=0)∧Below ((w.alloc (Rw.o ⟨rx,ra,rc,rz⟩)).alloc (Rw.o ⟨sx,sa,sc,sz⟩)).heap.size ((w.alloc (Rw.o ⟨rx,ra,rc,rz⟩)).alloc (Rw.o ⟨sx,sa,sc,sz⟩)) V) (fun v _=>sz.length - (intOf v).toNat)
 case atStart=>exact ⟨0,Nat.zero_le _,rfl,fun j h=>by omega,Below.refl _ _⟩
 case round =>
  obtain ⟨i,hi,rfl,h1,hB⟩:=hrel
  have HI:=jH h1
  have HBV:=jH hB
  obtain ⟨x0,x1⟩:=(HA.out.below hB).rwo
  obtain ⟨y0,y1⟩:=(HC.out.below hB).rwo
  simp only at x0 x1 y0 y1
  clear h1 hB
  by_cases hlt:i<sz.length
  ·obtain ⟨p,hp⟩:∃ p,sz[i]?=some p:=⟨_,List.getElem?_eq_getElem hlt⟩
   obtain ⟨q,hq⟩:∃ p,rz[i]?=some p:=⟨_,List.getElem?_eq_getElem (by have:=HL.out;omega)⟩
   obtain ⟨g,off,ea,hg,hc⟩:=(HS.out.bel HBV.out).c (by intro hh;simp only at hh;simp [hh] at hp)
   obtain ⟨g2,off2,ea2,hg2,hc2⟩:=(HR.out.bel HBV.out).c (by intro hh;simp only at hh;simp [hh] at hq)
   simp only at ea ea2
   subst ea
   subst ea2
   have c0:=hc i p hp
   have d0:=hc2 i q hq
   obtain ⟨u,hu⟩:∃ u:Nat,lkW p q=(u:Int):=⟨(lkW p q).toNat,by have:=lkW_rng p q;omega⟩
   have hu2:u<18446744073709551616:=by have:=lkW_rng p q;omega
   have e0:bits BinOp.andNot IntKind.u64 p q=(u:Int):=hu
   have i0:(0:Int)≤(i:Int):=by omega
   have i1:(i:Int)<(sz.length:Int):=by omega
   have i2:(i:Int)<(rz.length:Int):=by have:=HL.out;omega
   have HLT:=jH hlt
   have HU:=jH hu
   have HP:=jH hp
   have HQ:=jH hq
   by_cases hu0:u=0
   ·subst hu0
    have e1:bits BinOp.andNot IntKind.u64 p q=0:=by rw [e0];rfl
    clear hlt hp hq hi hc hc2 hu e0 hu2
    go_wp2_with fail
    refine ⟨⟨i+1,HLT.out,rfl,fun j hj=>?_,HBV.out⟩,by have:=HLT.out;show sz.length - ((i:Int)+1).toNat<sz.length - (i:Int).toNat;omega⟩
    rcases Nat.lt_or_ge j i with h1|h1
    ·exact HI.out j h1
    ·obtain rfl:j=i:=by omega
     have a1:=HP.out
     have a2:=HQ.out
     simp only [List.getD_eq_getElem?_getD,a1,a2,Option.getD_some]
     exact HU.out
   ·have C:=jH (tzx_any u hu2 hu0 _ (HT.out.bel HBV.out))
    have e1:((u:Int) != 0)=true:=by simp;omega
    have HFI:Hid (FI rz sz (64*sz.length) ((64*i+Lib.ctz 64 u:Nat):Int) true):=jH (FI.found HL.out hlt HI.out hp hq hu hu0 HRW.out HSW.out)
    have ht64:Lib.ctz 64 u<64:=(low_is hu0 hu2).1
    obtain ⟨t,ht⟩:∃ t,t=Lib.ctz 64 u:=⟨_,rfl⟩
    rw [← ht] at HFI C ht64
    have t0:(0:Int)≤(t:Int):=by omega
    have t1:(t:Int)<64:=by omega
    have i3:(i:Int)≤100:=by omega
    clear hlt hp hq hi hc hc2 hu hu2 hu0 ht ht64
    go_wp2_with (go_at_call 77;refine C.out.mono ?_;rintro e w9 ⟨rfl,hw⟩;subst hw)
    go_ret2
    exact ⟨⟨_,_,rfl,by have:=HFI.out;rw [show ((64*i+t:Nat):Int)=(i:Int)*64+(t:Int) by omega] at this;exact this⟩,below2 HBV.out⟩
  ·obtain rfl:i=sz.length:=by omega
   have lt:¬ (sz.length:Int)<(sz.length:Int):=by omega
   have HFI:Hid (FI rz sz (64*sz.length) 0 false):=jH (FI.none_ HL.out HI.out HRW.out HSW.out)
   clear hlt hi
   go_wp2_with fail
   go_ret2
   exact ⟨⟨_,_,rfl,HFI.out⟩,below2 HBV.out⟩
def NoL (R:List Rw) (q:Int × Int):Prop:=∃ rx ry,R[q.1.toNat]?=some rx∧R[q.2.toNat]?=some ry∧FI rx.zs ry.zs rx.x.toNat 0 false
def YesL (R:List Rw) (q:Int × Int) (p:Int):Prop:=∃ rx ry,R[q.1.toNat]?=some rx∧R[q.2.toNat]?=some ry∧FI rx.zs ry.zs rx.x.toNat p true
def ClX (l:List (Int × Int)) (R:List Rw) (i p:Int) (is:Bool):Prop:=(is=true∧i=0∧p=0∧∀ (j:Nat) (q:Int × Int),l[j]?=some q→NoL R q)∨(is=false∧∃ k:Nat,i=(k:Int)∧(∃ q,l[k]?=some q∧YesL R q p)∧∀ (j:Nat) (q:Int × Int),j<k→l[j]?=some q→NoL R q)
def ClP (l:List (Int × Int)) (R:List Rw) (e:Ending):Prop:=∃ (i p:Int) (is:Bool),e=.returned (.tuple #[.int .i64 i,.int .i64 p,.bool is,.int .i64 0])∧ClX l R i p is
theorem noyes {R:List Rw} {q:Int × Int} {p:Int} (h:NoL R q) (k:YesL R q p):False:=by
 obtain ⟨a,b,h1,h2,h3⟩:=h
 obtain ⟨c,d,k1,k2,k3⟩:=k
 rw [h1] at k1;cases k1
 rw [h2] at k2;cases k2
 have:=(h3.unique k3).2
 cases this
theorem yesyes {R:List Rw} {q:Int × Int} {p p':Int} (h:YesL R q p) (k:YesL R q p'):p=p':=by
 obtain ⟨a,b,h1,h2,h3⟩:=h
 obtain ⟨c,d,k1,k2,k3⟩:=k
 rw [h1] at k1;cases k1
 rw [h2] at k2;cases k2
 exact (h3.unique k3).1
theorem ClX.unique {l:List (Int × Int)} {R:List Rw} {i p i' p':Int} {is is':Bool} (h:ClX l R i p is) (k:ClX l R i' p' is'):i=i'∧p=p'∧is=is':=by
 rcases h with ⟨rfl,rfl,rfl,h1⟩|⟨rfl,a,rfl,⟨q,h1,h2⟩,h3⟩ <;> rcases k with ⟨rfl,rfl,rfl,k1⟩|⟨rfl,b,rfl,⟨r,k1,k2⟩,k3⟩
 ·exact ⟨rfl,rfl,rfl⟩
 ·exact (noyes (h1 b r k1) k2).elim
 ·exact (noyes (k1 a q h1) h2).elim
 ·rcases Nat.lt_trichotomy a b with h|h|h
  ·exact (noyes (k3 a q h h1) h2).elim
  ·subst h
   rw [h1] at k1;cases k1
   exact ⟨rfl,yesyes h2 k2,rfl⟩
  ·exact (noyes (h3 b r h k1) k2).elim
theorem good_narrow {R:List Rw} (hg:goodR R=true) {rx ry:Rw} (hx:rx∈R) (hy:ry∈R) (hw:∀ z∈ry.zs,0≤z∧z<18446744073709551616) {p:Int} {b:Bool} (h:FI rx.zs ry.zs (64*ry.zs.length) p b):FI rx.zs ry.zs rx.x.toNat p b:=by
 obtain ⟨e1,m1⟩:=good_each hg hx
 obtain ⟨e2,m2⟩:=good_each hg hy
 obtain ⟨h0,h1,hn⟩:=mayR_len m2
 have e3:rx.x=ry.x:=e1.trans e2.symm
 rw [e3]
 obtain ⟨k,hk⟩:=Int.eq_ofNat_of_zero_le h0
 rw [hk] at m2 hn h1 ⊢
 have h1':k≤1032:=by omega
 rw [Int.toNat_natCast]
 exact h.narrow (by omega) ((may_bits h1' hn hw).1 m2)
theorem Closed_x (w:World) (a:Option Addr) (m cap:Nat) (l:List (Int × Int)) (hP:PrR w a m cap l) (b:Option Addr) (n cap2:Nat) (R:List Rw) (hR:RsR w b n cap2 R) (hT:TabZ w) (hg:goodR R=true) (ho:l.any (outB n)=false):Calls Tryz.prog 17 #[.slice a m cap,.slice b n cap2] w fun e w'=>ClP l R e∧Below w.heap.size w w':=by
 have C1:=jH (areRows_any b n cap2 R w hR)
 have C2:=jH (fun (V:World) (hV:Below w.heap.size w V)=>areBelow_any n a m cap l V (hP.bel hV))
 have HO:=jH ho
 have HG:=jH hg
 rw [hg] at C1
 rw [ho] at C2
 have HP:=jH hP
 have HR:=jH hR
 have HT:=jH hT
 have HML:=jH hP.len
 have m9:(m:Int)≤9223372036854775807:=by have:=hP.big;unfold maxLen at this;omega
 clear hR hg hP ho hT
 go_enter Tryz.func17,Tryz.ntmps17
 go_wp2_with (first
  | (go_at_call 41;refine C1.out.mono ?_;rintro e w1 ⟨rfl,hb⟩;have HB1:=jH hb;clear hb)
  | (go_at_call 42;refine (C2.out _ HB1.out).mono ?_;rintro e w2 ⟨rfl,hb⟩;have HB2:=jH (jB HB1.out hb);clear hb))
 go_loopw [24] (fun v V=>∃ i:Nat,i≤m∧v=.int .i64 (i:Int)∧(∀ (j:Nat) (q:Int × Int),j<i→l[j]?=some q→NoL R q)∧Below w.heap.size w V) (fun v _=>m - (intOf v).toNat)
 case atStart=>exact ⟨0,Nat.zero_le _,rfl,fun j q h=>by omega,HB2.out⟩
 case round =>
  rename_i wr
  obtain ⟨i,hi,rfl,h1,hB⟩:=hrel
  have HI:=jH h1
  have HB:=jH hB
  clear h1 hB
  by_cases hlt:i<m
  ·obtain ⟨⟨x,y⟩,hp⟩:∃ p,l[i]?=some p:=⟨_,List.getElem?_eq_getElem (by have:=HML.out;omega)⟩
   obtain ⟨⟨hx0,hx1⟩,hy0,hy1⟩:=in_of HO.out (List.mem_of_getElem? hp)
   simp only at hx0 hx1 hy0 hy1
   obtain ⟨xn,rfl⟩:∃ k:Nat,x=(k:Int):=⟨x.toNat,by omega⟩
   obtain ⟨yn,rfl⟩:∃ k:Nat,y=(k:Int):=⟨y.toNat,by omega⟩
   obtain ⟨rx,hrx⟩:∃ p,R[xn]?=some p:=⟨_,List.getElem?_eq_getElem (by have:=HR.out.len;omega)⟩
   obtain ⟨ry,hry⟩:∃ p,R[yn]?=some p:=⟨_,List.getElem?_eq_getElem (by have:=HR.out.len;omega)⟩
   have hx:R[(xn:Int).toNat]?=some rx:=by simpa using hrx
   have hy:R[(yn:Int).toNat]?=some ry:=by simpa using hry
   have hne:R≠[]:=by intro hh;simp [hh] at hrx
   obtain ⟨g,o,eb,-,-⟩:=HR.out.cells hne
   subst eb
   obtain ⟨ga,off,ea,hg,c0,c1⟩:=(HP.out.bel HB.out).nth hp
   have ea2:a=some ⟨ga,off,none⟩:=ea
   subst ea2
   simp only at c0 c1
   obtain ⟨gl1,gl2⟩:=good_len HG.out (List.mem_of_getElem? hrx) (List.mem_of_getElem? hry)
   have CL:=jH (fun (V:World) (hV:Below w.heap.size w V)=>lackx_any rx ry V ((HR.out.at_ _ (List.mem_of_getElem? hrx)).bel hV) ((HR.out.at_ _ (List.mem_of_getElem? hry)).bel hV) gl1 gl2 (HT.out.bel hV))
   have HNW:=jH (fun p b h=>good_narrow HG.out (List.mem_of_getElem? hrx) (List.mem_of_getElem? hry) (HR.out.at_ _ (List.mem_of_getElem? hry)).wd (p:=p) (b:=b) h)
   have HX9:=jH hx
   have HY9:=jH hy
   have HP1:=jH hp
   have HLT:=jH hlt
   have i0:(0:Int)≤(i:Int):=by omega
   have i1:(i:Int)<(m:Int):=by omega
   clear ea hlt hi gl1 gl2 hg
   go_upto_region 6 with fail
   clear c0 c1
   refine beginH (S:=fun V=>At V wr.heap.size (.cells #[.int .i64 (xn:Int),.int .i64 (yn:Int)] 36)∧RsR V (some ⟨g,o,none⟩) n cap2 R) (fun _ _ _ _ _ h=>h) (by kernel_rfl) ⟨(At.new wr _).drew,(HR.out.bel (belA HB.out)).bel (belN bR 1)⟩ (fun hq hH=>?_)
   refine tz 0 30 (.slice (some ⟨g,o,none⟩) n cap2) hq rfl rfl hH ?_
   simp only [pb,pc]
   refine tz 1 31 (.pointer (some ⟨wr.heap.size,0,none⟩)) hq rfl rfl hH ?_
   simp only [pb,pc]
   refine tq 2 32 (.int .i64 (xn:Int)) hq rfl rfl (fun W hSw=>by (have hA:=hSw.1;unfold At at hA;have c0:W.cell? ⟨wr.heap.size,0,none⟩=some (.int .i64 (xn:Int)):=(by simp [World.cell?,hA]);have c1:W.cell? ⟨wr.heap.size,1,none⟩=some (.int .i64 (yn:Int)):=(by simp [World.cell?,hA]);go_simp;try rfl)) hH ?_
   simp only [pb,pc]
   refine tz 3 33 (.pointer (some ⟨g,o+xn*2,none⟩)) hq rfl rfl hH ?_
   simp only [pb,pc]
   refine tq 4 34 (rx.v) hq rfl rfl (fun W hSw=>by (obtain ⟨gg,og,eg,hgg,hcc⟩:=hSw.2.cells hne;cases eg;obtain ⟨z0,z1⟩:=hcc xn rx hrx;go_simp;try rfl)) hH ?_
   simp only [pb,pc]
   refine tz 5 35 (.slice (some ⟨g,o,none⟩) n cap2) hq rfl rfl hH ?_
   simp only [pb,pc]
   refine tz 6 36 (.pointer (some ⟨wr.heap.size,1,none⟩)) hq rfl rfl hH ?_
   simp only [pb,pc]
   refine tq 7 37 (.int .i64 (yn:Int)) hq rfl rfl (fun W hSw=>by (have hA:=hSw.1;unfold At at hA;have c0:W.cell? ⟨wr.heap.size,0,none⟩=some (.int .i64 (xn:Int)):=(by simp [World.cell?,hA]);have c1:W.cell? ⟨wr.heap.size,1,none⟩=some (.int .i64 (yn:Int)):=(by simp [World.cell?,hA]);go_simp;try rfl)) hH ?_
   simp only [pb,pc]
   refine tz 8 38 (.pointer (some ⟨g,o+yn*2,none⟩)) hq rfl rfl hH ?_
   simp only [pb,pc]
   refine tq 9 39 (ry.v) hq rfl rfl (fun W hSw=>by (obtain ⟨gg,og,eg,hgg,hcc⟩:=hSw.2.cells hne;cases eg;obtain ⟨z0,z1⟩:=hcc yn ry hry;go_simp;try rfl)) hH ?_
   simp only [pb,pc]
   refine aR1 10 rfl (fun K hK=>?_)
   have C3:=jH (CL.out _ (belN (belA HB.out (o:=.cells #[.int .i64 (xn:Int),.int .i64 (yn:Int)] 36)) 1))
   go_simp
   refine C3.out.mono ?_
   rintro e w4 ⟨⟨p,lb,rfl,hfi⟩,hb⟩
   have HFI:=jH (HNW.out _ _ hfi)
   clear hfi
   have HB4:=jH (jB (belN (belA HB.out) 1) hb)
   have hH2:At w4 wr.heap.size (.cells #[.int .i64 (xn:Int),.int .i64 (yn:Int)] 36)∧RsR w4 (some ⟨g,o,none⟩) n cap2 R:=⟨hH.1.below hb,hH.2.bel hb⟩
   clear hb C3
   go_wp2_with fail
   refine hK.out _ _ hH2 (fun hH=>?_)
   clear hK K hH2
   try simp only [Act.put,List.setIfInBounds_toArray,pb,pc]
   refine tz 11 29 (.tuple #[.int .i64 p,.bool lb]) hq rfl rfl hH ?_
   simp only [pb,pc]
   refine tz 12 41 (.int .i64 p) hq rfl rfl hH ?_
   simp only [pb,pc]
   refine tz 13 42 (.bool lb) hq rfl rfl hH ?_
   simp only [pb,pc]
   refine tz 14 10 (.int .i64 p) hq rfl rfl hH ?_
   simp only [pb,pc]
   refine tz 15 11 (.bool lb) hq rfl rfl hH ?_
   simp only [pb,pc]
   refine wpAnyH_done (by kernel_rfl) ?_ _
   clear hH hq
   cases lb with
   | true =>
    go_wp2_with fail
    (try simp only [Exit.inBlock,Exit.then])
    refine bodyPost_ret (results_tmp4 rfl _ _ _) rfl ?_
    exact ⟨⟨_,_,_,rfl,Or.inr ⟨rfl,i,rfl,⟨_,HP1.out,rx,ry,HX9.out,HY9.out,HFI.out⟩,HI.out⟩⟩,HB4.out⟩
   | false =>
    go_wp2_with fail
    refine ⟨⟨i+1,HLT.out,rfl,fun j q hj hq=>?_,HB4.out⟩,by have:=HLT.out;show m - ((i:Int)+1).toNat<m - (i:Int).toNat;omega⟩
    rcases Nat.lt_or_ge j i with h1|h1
    ·exact HI.out j q h1 hq
    ·obtain rfl:j=i:=by omega
     rw [HP1.out] at hq
     cases hq
     have h9:=HFI.out
     obtain rfl:p=0:=by
      rcases h9 with ⟨-,h,-⟩|⟨h,-⟩
      ·exact h
      ·cases h
     exact ⟨rx,ry,HX9.out,HY9.out,h9⟩
  ·obtain rfl:i=m:=by omega
   have lt:¬ (i:Int)<(i:Int):=by omega
   clear hlt hi
   go_wp2_with fail
   (try simp only [Exit.inBlock,Exit.then])
   refine bodyPost_ret (results_tmp4 rfl _ _ _) rfl ?_
   exact ⟨⟨_,_,_,rfl,Or.inl ⟨rfl,rfl,rfl,fun j q hq=>HI.out j q (by have:=(List.getElem?_eq_some_iff.1 hq).1;have:=HML.out;omega) hq⟩⟩,HB.out⟩
def RfP (r s:List Int) (x:Nat) (e:Ending):Prop:=∃ (p:Int) (b:Bool),e=.returned (.tuple #[.int .i64 p,.bool b])∧FI r s x p b
theorem rFirst_any (r s:Rw) (w:World) (hr:RwAt w r) (hs:RwAt w s) (hl:r.zs.length=s.zs.length) (hb:s.zs.length≤100) (x:Nat) (hx:r.x=(x:Int)) (hxl:x≤64*s.zs.length):Calls Tryz.prog 45 #[r.v,s.v] w fun e w'=>RfP r.zs s.zs x e∧Below w.heap.size w w':=by
 have HB:Hid (Below w.heap.size w ((w.alloc r.o).alloc s.o)):=jH (belA (belA bR))
 have HA:=jH ((At.new w r.o).alloc s.o)
 have HC:=jH (at_snd w r.o s.o)
 have CS:=jH (fun (k:Nat) (hk:k<x) (V:World) (hV:Below w.heap.size w V)=>rIs_any s k V (hs.bel hV) (by omega) hb)
 have CR:=jH (fun (k:Nat) (hk:k<x) (V:World) (hV:Below w.heap.size w V)=>rIs_any r k V (hr.bel hV) (by omega) (by omega))
 have x1:(x:Int)≤6400:=by omega
 obtain ⟨rx,ra,rc,rz⟩:=r
 obtain ⟨sx,sa,sc,sz⟩:=s
 simp only at hx
 subst hx
 clear hr hs hl hb hxl
 go_enter Tryz.func45,Tryz.ntmps45
 go_wp2_with fail
 go_loopw [6] (fun v V=>∃ k:Nat,k≤x∧v=.int .i64 (k:Int)∧(∀ j,j<k→lkb rz sz j=false)∧Below ((w.alloc (Rw.o ⟨(x:Int),ra,rc,rz⟩)).alloc (Rw.o ⟨sx,sa,sc,sz⟩)).heap.size ((w.alloc (Rw.o ⟨(x:Int),ra,rc,rz⟩)).alloc (Rw.o ⟨sx,sa,sc,sz⟩)) V) (fun v _=>x - (intOf v).toNat)
 case atStart=>exact ⟨0,Nat.zero_le _,rfl,fun j h=>by omega,Below.refl _ _⟩
 case round =>
  obtain ⟨k,hk,rfl,h1,hB⟩:=hrel
  have HI:=jH h1
  have HBV:=jH hB
  have HBW:=jH (jB HB.out hB)
  obtain ⟨x0,x1'⟩:=(HA.out.below hB).rwo
  obtain ⟨y0,y1⟩:=(HC.out.below hB).rwo
  simp only at x0 x1' y0 y1
  clear h1 hB
  by_cases hlt:k<x
  ·have l0:(k:Int)<(x:Int):=by omega
   have HLT:=jH hlt
   have C1:=jH (CS.out k hlt _ HBW.out)
   try simp only at C1
   clear hlt hk
   cases hbs:bt sz k with
   | false =>
    rw [hbs] at C1
    have HN:Hid (lkb rz sz k=false):=jH (by unfold lkb;rw [hbs];rfl)
    clear hbs
    as_aux_lemma =>
     go_wp2_with (go_at_call 78;refine C1.out.mono ?_;rintro e w3 ⟨rfl,hb⟩;have HB3:=jH (jB HBV.out hb);clear hb)
     go_roundw
     case rel =>
      refine ⟨k+1,HLT.out,by have:=HLT.out;go_num,fun j h2=>?_,HB3.out⟩
      rcases Nat.lt_or_ge j k with h|h
      ·exact HI.out j h
      ·obtain rfl:j=k:=by omega
       exact HN.out
     case measure=>have:=HLT.out;simp [intOf];omega
   | true =>
    rw [hbs] at C1
    have C2:=jH (CR.out k HLT.out)
    try simp only at C2
    cases hbr:bt rz k with
    | true =>
     rw [hbr] at C2
     have HN:Hid (lkb rz sz k=false):=jH (by unfold lkb;rw [hbr];simp)
     clear hbs hbr
     as_aux_lemma =>
      go_wp2_with (first
       | ((with_reducible show Calls _ _ #[.agg #[.int .i64 sx,_],_] _ _);refine C1.out.mono ?_;rintro e w3 ⟨rfl,hb⟩;have HB3:=jH (jB HBV.out hb);have HW3:=jH (jB HBW.out hb);obtain ⟨x0,x1'⟩:=(HA.out.below HB3.out).rwo;simp only at x0 x1';clear hb C1)
       | (go_at_call 78;refine (C2.out _ HW3.out).mono ?_;rintro e w4 ⟨rfl,hb⟩;have HB4:=jH (jB HB3.out hb);clear hb))
      go_roundw
      case rel =>
       refine ⟨k+1,HLT.out,by have:=HLT.out;go_num,fun j h2=>?_,HB4.out⟩
       rcases Nat.lt_or_ge j k with h|h
       ·exact HI.out j h
       ·obtain rfl:j=k:=by omega
        exact HN.out
      case measure=>have:=HLT.out;simp [intOf];omega
    | false =>
     rw [hbr] at C2
     have HN:Hid (lkb rz sz k=true):=jH (by unfold lkb;rw [hbs,hbr];rfl)
     clear hbs hbr
     as_aux_lemma =>
      go_wp2_with (first
       | ((with_reducible show Calls _ _ #[.agg #[.int .i64 sx,_],_] _ _);refine C1.out.mono ?_;rintro e w3 ⟨rfl,hb⟩;have HB3:=jH (jB HBV.out hb);have HW3:=jH (jB HBW.out hb);obtain ⟨x0,x1'⟩:=(HA.out.below HB3.out).rwo;simp only at x0 x1';clear hb C1)
       | (go_at_call 78;refine (C2.out _ HW3.out).mono ?_;rintro e w4 ⟨rfl,hb⟩;have HB4:=jH (jB HB3.out hb);clear hb))
      go_ret2
      exact ⟨⟨_,_,rfl,.inr ⟨rfl,k,HLT.out,rfl,HN.out,HI.out⟩⟩,below2 HB4.out⟩
  ·obtain rfl:k=x:=by omega
   have l0:¬ (k:Int)<(k:Int):=by omega
   clear hlt hk
   go_wp2_with fail
   go_ret2
   exact ⟨⟨_,_,rfl,Or.inl ⟨rfl,rfl,HI.out⟩⟩,below2 HBV.out⟩
def RC (W:World) (g o:Nat) (R:List Rw):Prop:=∀ V,Below W.heap.size W V→∀ (i:Nat) (r:Rw),R[i]?=some r→V.cell? ⟨g,o+i*2,none⟩=some (.int .i64 r.x)∧V.cell? ⟨g,o+i*2+1,none⟩=some (.slice r.a r.zs.length r.cap)
theorem RsR.rc {W:World} {a:Option Addr} {n cap:Nat} {R:List Rw} (h:RsR W a n cap R) (hne:R≠[]):∃ g o,a=some ⟨g,o,none⟩∧RC W g o R:=by
 obtain ⟨g,o,e,hg,hc⟩:=h.cells hne
 exact ⟨g,o,e,fun V hV i r hi=>⟨(hV.cell (p:=⟨g,_,none⟩) hg).trans (hc i r hi).1,(hV.cell (p:=⟨g,_,none⟩) hg).trans (hc i r hi).2⟩⟩
theorem RC.bel {W V:World} {g o:Nat} {R:List Rw} (h:RC W g o R) (k:Below W.heap.size W V):RC V g o R:=fun U hU=>h U (k.trans (hU.mono k.size))
def ClR (l:List (Int × Int)) (R:List Rw) (e:Ending):Prop:=if goodR R=true∧l.any (outB R.length)=false then ClP l R e else e=.returned (.tuple #[.int .i64 0,.int .i64 0,.bool false,.int .i64 2])
theorem rClosed_any (w:World) (a:Option Addr) (m cap:Nat) (l:List (Int × Int)) (hP:PrR w a m cap l) (hm:m≤100000) (b:Option Addr) (n cap2:Nat) (R:List Rw) (hR:RsR w b n cap2 R) (hn:n≤100000) (hw:∀ r∈R,r.zs.length≤100):Calls Tryz.prog 18 #[.slice a m cap,.slice b n cap2] w fun e w'=>ClR l R e∧Below w.heap.size w w':=by
 have HP:=jH hP
 have HR:=jH hR
 have HW:=jH hw
 have HN:=jH hR.len
 have HM:=jH hP.len
 have n1:(n:Int)≤100000:=by omega
 have m1:(m:Int)≤100000:=by omega
 clear hP hR hw hn hm
 go_enter Tryz.func18,Tryz.ntmps18
 go_wp2_with fail
 go_loopw [8] (fun v V=>∃ i:Nat,i≤n∧v=.int .i64 (i:Int)∧(R.take i).any (badR (fstX R))=false∧Below w.heap.size w V) (fun v _=>n - (intOf v).toNat)
 case atStart=>exact ⟨0,Nat.zero_le _,rfl,rfl,Below.refl _ _⟩
 case round =>
  obtain ⟨i,hi,rfl,hno,hB⟩:=hrel
  have HNO:=jH hno
  have HB:=jH hB
  clear hno hB
  by_cases hlt:i<n
  ·obtain ⟨r,hr⟩:∃ r,R[i]?=some r:=⟨_,List.getElem?_eq_getElem (by have:=HN.out;omega)⟩
   have hne:R≠[]:=by intro hh;subst hh;simp at hr
   obtain ⟨r0,hr0⟩:∃ r,R[0]?=some r:=⟨_,List.getElem?_eq_getElem (List.length_pos_iff.2 hne)⟩
   obtain ⟨g,o,rfl,hrc⟩:=HR.out.rc hne
   have HRC:=jH (hrc.bel HB.out)
   have C1:=jH (fun (V:World) (hV:Below w.heap.size w V)=>rMay_any r V ((HR.out.bel hV).at_ r (List.mem_of_getElem? hr)))
   have hfx:fstX R=r0.x:=by
    cases R with
    | nil=>exact absurd rfl hne
    | cons z zs=>simp at hr0;subst hr0;rfl
   have HON:Hid (∀ q:Bool,badR (fstX R) r=q→(R.take (i+1)).any (badR (fstX R))=q):=jH fun q hq=>by rw [take_on hr,List.any_append,HNO.out];simp [hq]
   have HBD:Hid (badR (fstX R) r=true→goodR R=false):=jH fun hq=>by
    unfold goodR
    have:R.any (badR (fstX R))=true:=List.any_eq_true.2 ⟨r,List.mem_of_getElem? hr,hq⟩
    rw [this];rfl
   have HR0:=jH hr0
   have HRI:=jH hr
   have HLT:=jH hlt
   have HFX:=jH hfx
   have k0:(0:Int)≤(i:Int):=by omega
   have k1:(i:Int)<(n:Int):=by omega
   have z1:(0:Int)<(n:Int):=by omega
   have z2:¬ n=0:=by omega
   rename World=>U
   clear hr hr0 hlt hi hfx hrc hne
   go_upto_region 4 with fail
   refine beginH (S:=fun V=>Below U.heap.size U V) (fun _ _ _ _ _ h=>h) (by kernel_rfl) (belN bR 1) (fun hq hH=>?_)
   refine tz 0 19 (.slice (some ⟨g,o,none⟩) n cap2) hq rfl rfl hH ?_
   simp only [pb,pc]
   refine tz 1 20 (.int .i64 (i:Int)) hq rfl rfl hH ?_
   simp only [pb,pc]
   refine tz 2 21 (.pointer (some ⟨g,o+i*2,none⟩)) hq rfl rfl hH ?_
   simp only [pb,pc]
   refine tq 3 22 (r.v) hq rfl rfl (fun W hSw=>by (obtain ⟨c0,c1⟩:=HRC.out _ hSw i r HRI.out;go_simp;try rfl)) hH ?_
   simp only [pb,pc]
   refine aR1 4 rfl (fun K hK=>?_)
   have C2:=jH (C1.out _ (belN HB.out 1))
   go_simp
   refine C2.out.mono ?_
   rintro e w4 ⟨rfl,hb⟩
   have HB4:=jH (jB (belN HB.out 1) hb)
   have hH2:Below U.heap.size U w4:=jB (belN bR 1) hb
   clear hb C2 C1
   go_wp2_with fail
   refine hK.out _ _ hH2 (fun hH=>?_)
   clear hK K hH2
   try simp only [Act.put,List.setIfInBounds_toArray,pb,pc]
   cases hmr:mayR r.x r.zs with
   | false =>
    have HBT:Hid (badR (fstX R) r=true):=jH (by unfold badR;rw [hmr];simp)
    clear hmr
    as_aux_lemma =>
     refine tz 5 24 (.bool true) hq rfl rfl hH ?_
     simp only [pb,pc]
     refine tz 6 25 (.bool true) hq rfl rfl hH ?_
     simp only [pb,pc]
     refine sq 7 26 hq rfl rfl hH ?_
     simp only [pb,pc]
     refine sq 8 27 hq rfl rfl hH ?_
     simp only [pb,pc]
     refine sq 9 28 hq rfl rfl hH ?_
     simp only [pb,pc]
     refine sq 10 29 hq rfl rfl hH ?_
     simp only [pb,pc]
     refine sq 11 30 hq rfl rfl hH ?_
     simp only [pb,pc]
     refine sq 12 31 hq rfl rfl hH ?_
     simp only [pb,pc]
     refine sq 13 32 hq rfl rfl hH ?_
     simp only [pb,pc]
     refine sq 14 33 hq rfl rfl hH ?_
     simp only [pb,pc]
     refine sq 15 34 hq rfl rfl hH ?_
     simp only [pb,pc]
     refine sq 16 35 hq rfl rfl hH ?_
     simp only [pb,pc]
     refine tz 17 36 (.bool true) hq rfl rfl hH ?_
     simp only [pb,pc]
     refine wpAnyH_done (by kernel_rfl) ?_ _
     clear hH hq
     go_wp2_with fail
     (try simp only [Exit.inBlock,Exit.then])
     refine bodyPost_ret (results_tmp4 rfl _ _ _) rfl ?_
     refine ⟨?_,HB4.out⟩
     unfold ClR
     rw [if_neg (by rw [HBD.out HBT.out];simp)]
     rfl
   | true =>
    have HMR:=jH hmr
    clear hmr
    obtain ⟨bq,hbq⟩:∃ q,q=(r.x != r0.x):=⟨_,rfl⟩
    have HBQ:Hid (badR (fstX R) r=bq):=jH (by
     unfold badR
     rw [HMR.out,HFX.out,hbq]
     by_cases h:r.x=r0.x <;> simp [h])
    refine tz 5 24 (.bool false) hq rfl rfl hH ?_
    simp only [pb,pc]
    refine tz 6 25 (.bool false) hq rfl rfl hH ?_
    simp only [pb,pc]
    refine tz 7 26 (.slice (some ⟨g,o,none⟩) n cap2) hq rfl rfl hH ?_
    simp only [pb,pc]
    refine tz 8 27 (.int .i64 (i:Int)) hq rfl rfl hH ?_
    simp only [pb,pc]
    refine tz 9 28 (.pointer (some ⟨g,o+i*2,none⟩)) hq rfl rfl hH ?_
    simp only [pb,pc]
    refine tz 10 29 (.pointer (some ⟨g,o+i*2,none⟩)) hq rfl rfl hH ?_
    simp only [pb,pc]
    refine tq 11 30 (.int .i64 r.x) hq rfl rfl (fun W hSw=>by (obtain ⟨c0,c1⟩:=HRC.out _ hSw i r HRI.out;go_simp;try rfl)) hH ?_
    simp only [pb,pc]
    refine tz 12 31 (.slice (some ⟨g,o,none⟩) n cap2) hq rfl rfl hH ?_
    simp only [pb,pc]
    refine tz 13 32 (.pointer (some ⟨g,o,none⟩)) hq rfl rfl hH ?_
    simp only [pb,pc]
    refine tz 14 33 (.pointer (some ⟨g,o,none⟩)) hq rfl rfl hH ?_
    simp only [pb,pc]
    refine tq 15 34 (.int .i64 r0.x) hq rfl rfl (fun W hSw=>by (have c0:=(HRC.out _ hSw 0 r0 HR0.out).1;rw [Nat.zero_mul,Nat.add_zero] at c0;go_simp;try rfl)) hH ?_
    simp only [pb,pc]
    refine tq 16 35 (.bool bq) hq rfl rfl (fun W hSw=>by (rw [hbq];go_simp;try rfl)) hH ?_
    simp only [pb,pc]
    refine tz 17 36 (.bool bq) hq rfl rfl hH ?_
    simp only [pb,pc]
    refine wpAnyH_done (by kernel_rfl) ?_ _
    clear hH hq hbq
    cases bq with
    | true =>
     as_aux_lemma =>
      go_wp2_with fail
      (try simp only [Exit.inBlock,Exit.then])
      refine bodyPost_ret (results_tmp4 rfl _ _ _) rfl ?_
      refine ⟨?_,HB4.out⟩
      unfold ClR
      rw [if_neg (by rw [HBD.out HBQ.out];simp)]
      rfl
    | false =>
     as_aux_lemma =>
      go_wp2_with fail
      exact ⟨⟨i+1,HLT.out,by have:=HLT.out;go_num,HON.out _ HBQ.out,HB4.out⟩,by have:=HLT.out;simp [intOf];omega⟩
  ·obtain rfl:i=n:=by omega
   have lt:¬ (i:Int)<(i:Int):=by omega
   have HG:Hid (goodR R=true):=jH (by
    have:=HNO.out
    rw [HN.out,List.take_length] at this
    unfold goodR
    rw [this];rfl)
   clear hlt hi HNO
   rename World=>U
   go_wp2_with fail
   go_loopw [9] (fun v V=>∃ j:Nat,j≤m∧v=.int .i64 (j:Int)∧(l.take j).any (outB (i:Int))=false∧V=U) (fun v _=>m - (intOf v).toNat)
   case atStart=>exact ⟨0,Nat.zero_le _,rfl,rfl,rfl⟩
   case round =>
    obtain ⟨j,hj,rfl,hn,hV⟩:=hrel
    replace hV:=hV.symm
    subst hV
    have HNO:=jH hn
    clear hn
    by_cases hlt:j<m
    ·obtain ⟨p,hp⟩:∃ p,l[j]?=some p:=⟨_,List.getElem?_eq_getElem (by have:=HM.out;omega)⟩
     obtain ⟨g,off,ea,hg,c0,c1⟩:=(HP.out.bel HB.out).nth hp
     subst ea
     have k0:(0:Int)≤(j:Int):=by omega
     have k1:(j:Int)<(m:Int):=by omega
     have HLT:=jH hlt
     have HPP:=jH hp
     have HBD:Hid (outB (i:Int) p=true→l.any (outB (R.length:Int))=true):=jH fun h=>List.any_eq_true.2 ⟨p,List.mem_of_getElem? hp,by rw [← HN.out];exact h⟩
     clear hp hlt hj
     by_cases b0:p.1<0
     ·have HX:=jH (HBD.out (by simp [outB,blwB];omega))
      as_aux_lemma =>
       go_wp2_with fail
       (try simp only [Exit.inBlock,Exit.then])
       refine bodyPost_ret (results_tmp4 rfl _ _ _) rfl ?_
       refine ⟨?_,HB.out⟩
       unfold ClR
       rw [if_neg (by rw [HX.out];simp)]
       rfl
     by_cases b1:p.2<0
     ·have HX:=jH (HBD.out (by simp [outB,blwB];omega))
      as_aux_lemma =>
       go_wp2_with fail
       (try simp only [Exit.inBlock,Exit.then])
       refine bodyPost_ret (results_tmp4 rfl _ _ _) rfl ?_
       refine ⟨?_,HB.out⟩
       unfold ClR
       rw [if_neg (by rw [HX.out];simp)]
       rfl
     by_cases b2:(i:Int)≤p.1
     ·have HX:=jH (HBD.out (by simp [outB,blwB];omega))
      as_aux_lemma =>
       go_wp2_with fail
       (try simp only [Exit.inBlock,Exit.then])
       refine bodyPost_ret (results_tmp4 rfl _ _ _) rfl ?_
       refine ⟨?_,HB.out⟩
       unfold ClR
       rw [if_neg (by rw [HX.out];simp)]
       rfl
     by_cases b3:(i:Int)≤p.2
     ·have HX:=jH (HBD.out (by simp [outB,blwB];omega))
      as_aux_lemma =>
       go_wp2_with fail
       (try simp only [Exit.inBlock,Exit.then])
       refine bodyPost_ret (results_tmp4 rfl _ _ _) rfl ?_
       refine ⟨?_,HB.out⟩
       unfold ClR
       rw [if_neg (by rw [HX.out];simp)]
       rfl
     have HO:Hid ((l.take (j+1)).any (outB (i:Int))=false):=jH (by
      rw [take_on HPP.out,List.any_append,HNO.out]
      simp [outB,blwB]
      omega)
     as_aux_lemma =>
      go_wp2_with fail
      go_roundw
      case rel=>exact ⟨j+1,HLT.out,by have:=HLT.out;go_num,HO.out,trivial⟩
      case measure=>have:=HLT.out;simp [intOf];omega
    ·obtain rfl:j=m:=by omega
     have lt2:¬ (j:Int)<(j:Int):=by omega
     have HO:Hid (l.any (outB (i:Int))=false):=jH (by
      have:=HNO.out
      rw [HM.out,List.take_length] at this
      exact this)
     clear hlt hj HNO
     go_wp2_with fail
     go_loopw [10] (fun v V=>∃ k:Nat,k≤j∧v=.int .i64 (k:Int)∧(∀ (t:Nat) (q:Int × Int),t<k→l[t]?=some q→NoL R q)∧Below U.heap.size U V) (fun v _=>j - (intOf v).toNat)
     case atStart=>exact ⟨0,Nat.zero_le _,rfl,fun t q h=>by omega,Below.refl _ _⟩
     case round =>
      obtain ⟨k,hk,rfl,h1,hB⟩:=hrel
      have HI:=jH h1
      have HBV:=jH hB
      have HBW:=jH (jB HB.out hB)
      clear h1 hB
      by_cases hlt:k<j
      ·obtain ⟨⟨x,y⟩,hp⟩:∃ p,l[k]?=some p:=⟨_,List.getElem?_eq_getElem (by have:=HM.out;omega)⟩
       obtain ⟨⟨hx0,hx1⟩,hy0,hy1⟩:=in_of HO.out (List.mem_of_getElem? hp)
       simp only at hx0 hx1 hy0 hy1
       obtain ⟨xn,rfl⟩:∃ z:Nat,x=(z:Int):=⟨x.toNat,by omega⟩
       obtain ⟨yn,rfl⟩:∃ z:Nat,y=(z:Int):=⟨y.toNat,by omega⟩
       obtain ⟨rx,hrx⟩:∃ p,R[xn]?=some p:=⟨_,List.getElem?_eq_getElem (by have:=HN.out;omega)⟩
       obtain ⟨ry,hry⟩:∃ p,R[yn]?=some p:=⟨_,List.getElem?_eq_getElem (by have:=HN.out;omega)⟩
       have hne:R≠[]:=by intro hh;simp [hh] at hrx
       obtain ⟨g,o,rfl,hrc⟩:=HR.out.rc hne
       have HRC:=jH ((hrc.bel HB.out).bel HBV.out)
       obtain ⟨ga,off,ea,hg,d0,d1⟩:=(HP.out.bel HBW.out).nth hp
       have ea2:a=some ⟨ga,off,none⟩:=ea
       subst ea2
       simp only at d0 d1
       obtain ⟨gl1,gl2⟩:=good_len HG.out (List.mem_of_getElem? hrx) (List.mem_of_getElem? hry)
       obtain ⟨ex1,ex2⟩:=good_each HG.out (List.mem_of_getElem? hrx)
       obtain ⟨xx0,xx1,xxn⟩:=mayR_len ex2
       obtain ⟨xw,hxw⟩:=Int.eq_ofNat_of_zero_le xx0
       have CL:=jH (fun (V:World) (hV:Below w.heap.size w V)=>rFirst_any rx ry V ((HR.out.bel hV).at_ _ (List.mem_of_getElem? hrx)) ((HR.out.bel hV).at_ _ (List.mem_of_getElem? hry)) gl1 gl2 xw hxw (by omega))
       have HXW:Hid (rx.x.toNat=xw):=jH (by omega)
       have HP1:=jH hp
       have HRX:=jH hrx
       have HRY:=jH hry
       have HLT:=jH hlt
       have F0:=jH (fun (V:World) (hV:Below wr.heap.size wr V)=>(hV.cell (p:=⟨ga,_,none⟩) hg).trans d0)
       have F1:=jH (fun (V:World) (hV:Below wr.heap.size wr V)=>(hV.cell (p:=⟨ga,_,none⟩) hg).trans d1)
       have k0:(0:Int)≤(k:Int):=by omega
       have k1:(k:Int)<(j:Int):=by omega
       rename World=>U2
       clear ea hlt hk gl1 gl2 ex1 ex2 xx0 xx1 xxn hxw hp hrx hry hne hrc hg d0 d1
       go_upto_region 14 with fail
       refine beginH (S:=fun V=>Below U2.heap.size U2 V) (fun _ _ _ _ _ h=>h) (by kernel_rfl) (belN bR 1) (fun hq hH=>?_)
       refine tz 0 84 (.slice (some ⟨g,o,none⟩) i cap2) hq rfl rfl hH ?_
       simp only [pb,pc]
       refine tz 1 85 (.slice (some ⟨ga,off,none⟩) j cap) hq rfl rfl hH ?_
       simp only [pb,pc]
       refine tz 2 86 (.int .i64 (k:Int)) hq rfl rfl hH ?_
       simp only [pb,pc]
       refine tz 3 87 (.pointer (some ⟨ga,off+k*2,none⟩)) hq rfl rfl hH ?_
       simp only [pb,pc]
       refine tz 4 88 (.pointer (some ⟨ga,off+k*2,none⟩)) hq rfl rfl hH ?_
       simp only [pb,pc]
       refine tq 5 89 (.int .i64 (xn:Int)) hq rfl rfl (fun W hSw=>by (have c0:=F0.out _ hSw;go_simp;try rfl)) hH ?_
       simp only [pb,pc]
       refine tz 6 90 (.pointer (some ⟨g,o+xn*2,none⟩)) hq rfl rfl hH ?_
       simp only [pb,pc]
       refine tq 7 91 (rx.v) hq rfl rfl (fun W hSw=>by (obtain ⟨c0,c1⟩:=HRC.out _ hSw xn rx HRX.out;go_simp;try rfl)) hH ?_
       simp only [pb,pc]
       refine tz 8 92 (.slice (some ⟨g,o,none⟩) i cap2) hq rfl rfl hH ?_
       simp only [pb,pc]
       refine tz 9 93 (.slice (some ⟨ga,off,none⟩) j cap) hq rfl rfl hH ?_
       simp only [pb,pc]
       refine tz 10 94 (.int .i64 (k:Int)) hq rfl rfl hH ?_
       simp only [pb,pc]
       refine tz 11 95 (.pointer (some ⟨ga,off+k*2,none⟩)) hq rfl rfl hH ?_
       simp only [pb,pc]
       refine tz 12 96 (.pointer (some ⟨ga,off+k*2+1,none⟩)) hq rfl rfl hH ?_
       simp only [pb,pc]
       refine tq 13 97 (.int .i64 (yn:Int)) hq rfl rfl (fun W hSw=>by (have c0:=F1.out _ hSw;go_simp;try rfl)) hH ?_
       simp only [pb,pc]
       refine tz 14 98 (.pointer (some ⟨g,o+yn*2,none⟩)) hq rfl rfl hH ?_
       simp only [pb,pc]
       refine tq 15 99 (ry.v) hq rfl rfl (fun W hSw=>by (obtain ⟨c0,c1⟩:=HRC.out _ hSw yn ry HRY.out;go_simp;try rfl)) hH ?_
       simp only [pb,pc]
       refine aR1 16 rfl (fun K hK=>?_)
       have C3:=jH (CL.out _ (belN HBW.out 1))
       go_simp
       refine C3.out.mono ?_
       rintro e w4 ⟨⟨p,lb,rfl,hfi⟩,hb⟩
       have HFI:=jH hfi
       have HB4:=jH (jB (belN HBW.out 1) hb)
       have HB5:=jH (jB (belN HBV.out 1) hb)
       have hH2:Below U2.heap.size U2 w4:=jB (belN bR 1) hb
       clear hb C3 hfi
       go_wp2_with fail
       refine hK.out _ _ hH2 (fun hH=>?_)
       clear hK K hH2
       try simp only [Act.put,List.setIfInBounds_toArray,pb,pc]
       refine tz 17 83 (.tuple #[.int .i64 p,.bool lb]) hq rfl rfl hH ?_
       simp only [pb,pc]
       refine tz 18 101 (.int .i64 p) hq rfl rfl hH ?_
       simp only [pb,pc]
       refine tz 19 102 (.bool lb) hq rfl rfl hH ?_
       simp only [pb,pc]
       refine tz 20 11 (.int .i64 p) hq rfl rfl hH ?_
       simp only [pb,pc]
       refine tz 21 12 (.bool lb) hq rfl rfl hH ?_
       simp only [pb,pc]
       refine wpAnyH_done (by kernel_rfl) ?_ _
       clear hH hq
       have HIF:Hid (goodR R=true∧l.any (outB R.length)=false):=jH ⟨HG.out,by rw [← HN.out];exact HO.out⟩
       cases lb with
       | true =>
        as_aux_lemma =>
         go_wp2_with fail
         (try simp only [Exit.inBlock,Exit.then])
         refine bodyPost_ret (results_tmp4 rfl _ _ _) rfl ?_
         refine ⟨?_,HB4.out⟩
         unfold ClR
         rw [if_pos HIF.out]
         exact ⟨_,_,_,rfl,Or.inr ⟨rfl,k,rfl,⟨_,HP1.out,rx,ry,HRX.out,HRY.out,by rw [HXW.out];exact HFI.out⟩,HI.out⟩⟩
       | false =>
        as_aux_lemma =>
         go_wp2_with fail
         refine ⟨⟨k+1,HLT.out,by have:=HLT.out;go_num,fun t q ht hq=>?_,HB5.out⟩,by have:=HLT.out;simp [intOf];omega⟩
         rcases Nat.lt_or_ge t k with h1|h1
         ·exact HI.out t q h1 hq
         ·obtain rfl:t=k:=by omega
          rw [HP1.out] at hq
          cases hq
          have h9:=HFI.out
          obtain rfl:p=0:=by
           rcases h9 with ⟨-,h,-⟩|⟨h,-⟩
           ·exact h
           ·cases h
          exact ⟨rx,ry,HRX.out,HRY.out,by rw [HXW.out];exact h9⟩
      ·obtain rfl:k=j:=by omega
       have lt3:¬ (k:Int)<(k:Int):=by omega
       have HIF:Hid (goodR R=true∧l.any (outB R.length)=false):=jH ⟨HG.out,by rw [← HN.out];exact HO.out⟩
       clear hlt hk
       go_wp2_with fail
       (try simp only [Exit.inBlock,Exit.then])
       refine bodyPost_ret (results_tmp4 rfl _ _ _) rfl ?_
       refine ⟨?_,HBW.out⟩
       unfold ClR
       rw [if_pos HIF.out]
       exact ⟨_,_,_,rfl,Or.inl ⟨rfl,rfl,rfl,fun t q hq=>HI.out t q (by have:=(List.getElem?_eq_some_iff.1 hq).1;have:=HM.out;omega) hq⟩⟩
end Go.Proofs.YtmjenlogbkbgnaaGreatDoor
