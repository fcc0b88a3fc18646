/-
  Part of a proof: A fault by value: its cells, faults held against others. No conditions. Conditions: those that each theorem names.
-/
import Derived.Test.YtooaajnkiokpnaaGreatDoorQ01
import Derived.Test.YtooaajnkiokpnaaGreatDoorQ03
import Derived.Test.YtooaajnkiokpnaaGreatDoorQ02
import Derived.Test.YtooaajnkiokpnaaGreatDoorQ05
import Derived.Test.YtooaajnkiokpnaaGreatDoorProg
import Derived.Deep.QuietTactic
import Derived.BigQuiet
import Derived.Test.YtooaajnkiokpnaaGreatDoorQ04
import Derived.Test.YtooaajnkiokpnaaGreatDoorCards
import Derived.Test.YtooaajnkiokpnaaGreatDoorTie
import Derived.Test.YtooaajnkiokpnaaGreatDoorQ06
import Derived.Deep.DeepHandedRow
import Derived.LaidHandle
import Derived.LaidLaws
import Derived.Stop.LaidErr
import Derived.Lib.SmallJoins
import Derived.Orders
import Derived.Deep.RegionHeld
import Derived.KernelRfl
import Derived.Tactics
import Derived.Laws.StructEq
import Derived.ChangeKeysEq
namespace Go.Proofs.YtooaajnkiokpnaaGreatDoor
open Go.RowKit Go.WideShapes
set_option maxHeartbeats 2000000
set_option maxRecDepth 100000
section
attribute [local irreducible] Fm.c
def Fm.may(x:Fm):Bool:=decide (zmc x.ty x.fl x.st x.dn x.pad x.code x.oth x.wt x.al x.win x.sn)
theorem zur(x:Fm)(hk:x.Ok)(hd:x.dn≤1000000)(hs:x.sn≤1000000)(w:World):Calls Tryz.prog 147 #[.agg x.c] w λe w'=>e=.returned (.bool x.may)∧Below w.heap.size w w':=by
 have HR:=z2w (Row.new w 66 x.c)
 have hB:Below w.heap.size w (w.alloc (.cells x.c 66)):=(Below.refl _ _).alloc (Nat.le_refl _) _
 have HB:=z2w hB
 obtain⟨c0,_,c2,c3,_,_,c6,_,_,c9,_⟩:=zf HR.out
 clear hB
 by_cases h1:2147483647<x.st
 ·have hE:x.may=false:=decide_eq_false λh=>by have:=h.1.1;omega
  have h1':(2147483647:Int)<(x.st:Int):=by omega
  rw[hE]
  clear hE h1
  go_enter Tryz.func147,Tryz.ntmps147
  go_wp2
  go_ret
  exact⟨rfl,HB.out⟩
 have n1:decide ((2147483647:Int)<(x.st:Int))=false:=by simp;omega
 by_cases h2:2147483647<x.oth
 ·have hE:x.may=false:=decide_eq_false λh=>by have:=h.1.2.1;omega
  have h2':(2147483647:Int)<(x.oth:Int):=by omega
  rw[hE]
  clear hE h1 h2
  go_enter Tryz.func147,Tryz.ntmps147
  go_wp2
  go_ret
  exact⟨rfl,HB.out⟩
 have n2:decide ((2147483647:Int)<(x.oth:Int))=false:=by simp;omega
 by_cases h3:2147483647<x.win
 ·have hE:x.may=false:=decide_eq_false λh=>by have:=h.1.2.2;omega
  have h3':(2147483647:Int)<(x.win:Int):=by omega
  rw[hE]
  clear hE h1 h2 h3
  go_enter Tryz.func147,Tryz.ntmps147
  go_wp2
  go_ret
  exact⟨rfl,HB.out⟩
 have n3:decide ((2147483647:Int)<(x.win:Int))=false:=by simp;omega
 by_cases h4:x.ty=6∧x.dn≠8
 ·have hE:x.may=false:=decide_eq_false λh=>h4.2 (h.2.1 h4.1)
  have e8:((x.dn:Int) != 8)=true:=by rw[bne,show ((x.dn:Int) == 8)=false from zo (b:=8) h4.2];rfl
  rw[hE]
  rw[h4.1] at c0
  clear hE h1 h2 h3 h4
  go_enter Tryz.func147,Tryz.ntmps147
  go_wp2
  go_ret
  exact⟨rfl,HB.out⟩
 have h123:x.st≤2147483647∧x.oth≤2147483647∧x.win≤2147483647:=by omega
 have h6:x.ty=6→x.dn=8:=by omega
 have hmp:=zk4 x hk.fl
 have how:=zwb x hk
 have hsz:=zeu x hk.fl hd hs
 clear h1 h2 h3
 have key:∀{r:Bool},x.may=r→(xv x.ty x.fl x.pad=false∧r=false∨xv x.ty x.fl x.pad=true∧x.own=false∧r=false∨xv x.ty x.fl x.pad=true∧x.own=true∧(-1≤x.pad∧x.pad≤255)∧r=decide (yo x.ty x.fl x.dn x.pad x.sn≤16384)):=by
  intro r hr
  subst hr
  cases hm:xv x.ty x.fl x.pad with
  |false=>exact .inl ⟨rfl,decide_eq_false λh=>(of_decide_eq_false hm) h.2.2.1⟩
  |true=>
   have hm':Qf x.ty x.fl x.pad:=of_decide_eq_true hm
   cases ho:x.own with
   |false=>exact .inr (.inl ⟨rfl,rfl,decide_eq_false λh=>(of_decide_eq_false ho) h.2.2.2.1⟩)
   |true=>
    have ho':qc x.ty x.fl x.dn x.code x.oth x.wt x.al x.win x.sn:=of_decide_eq_true ho
    refine .inr (.inr ⟨rfl,rfl,?_,?_⟩)
    ·by_cases hp:Q1 x.ty x.fl
     ·have:=hm'.1 hp;omega
     ·have:=hm'.2 hp;omega
    ·by_cases hz:yo x.ty x.fl x.dn x.pad x.sn≤16384
     ·rw[decide_eq_true hz];exact decide_eq_true ⟨h123,h6,hm',ho',hz⟩
     ·rw[decide_eq_false hz];exact decide_eq_false λh=>hz h.2.2.2.2
 obtain⟨r,hr⟩:∃r,x.may=r:=⟨_,rfl⟩
 have hc:=key hr
 rw[hr]
 clear key hr h123
 have hty:(x.ty=6∧x.dn=8)∨((x.ty:Int) == 6)=false:=by
  by_cases h:x.ty=6
  ·exact .inl ⟨h,h6 h⟩
  ·exact .inr (zo (b:=6) h)
 clear h4 h6
 generalize xv x.ty x.fl x.pad=mp at *
 generalize x.own=ow at *
 rcases hty with ⟨ht,hdn⟩|ht
 ·rw[ht] at c0
  have e8:((x.dn:Int) != 8)=false:=by rw[hdn];rfl
  rcases hc with ⟨rfl,rfl⟩|⟨rfl,rfl,rfl⟩|⟨rfl,rfl,hp,rfl⟩
  ·clear ht hdn how hsz
   go_enter Tryz.func147,Tryz.ntmps147
   go_wp2_with (refine zg rfl _ rfl rfl HR.out ?_)
   refine(hmp _).mono ?_
   rintro e w1 ⟨rfl,hb1⟩
   have HB1:=z2w (HB.out.trans (hb1.mono HB.out.size))
   clear hb1 hmp c0 c2 c3 c6 c9
   go_wp2
   go_ret
   exact⟨rfl,HB1.out⟩
  ·clear ht hdn hsz
   go_enter Tryz.func147,Tryz.ntmps147
   go_wp2_with (refine zg rfl _ rfl rfl HR.out ?_)
   refine(hmp _).mono ?_
   rintro e w1 ⟨rfl,hb1⟩
   have HB1:=z2w (HB.out.trans (hb1.mono HB.out.size))
   have HR1:=z2w (HR.out.below hb1 HR.out.lt)
   clear hb1 hmp c0 c2 c3 c6 c9
   go_wp2_with (refine Z0 (by rfl) _ rfl rfl HR1.out ?_)
   refine(how _).mono ?_
   rintro e w2 ⟨rfl,hb2⟩
   have HB2:=z2w (HB1.out.trans (hb2.mono HB1.out.size))
   clear hb2 how
   go_wp2
   go_ret
   exact⟨rfl,HB2.out⟩
  ·have hsz:=hsz (by omega) (by omega)
   generalize yo x.ty x.fl x.dn x.pad x.sn=Z at *
   clear ht hdn hp
   go_enter Tryz.func147,Tryz.ntmps147
   go_wp2_with (refine zg rfl _ rfl rfl HR.out ?_)
   refine(hmp _).mono ?_
   rintro e w1 ⟨rfl,hb1⟩
   have HB1:=z2w (HB.out.trans (hb1.mono HB.out.size))
   have HR1:=z2w (HR.out.below hb1 HR.out.lt)
   clear hb1 hmp c0 c2 c3 c6 c9
   go_wp2_with (refine Z0 (by rfl) _ rfl rfl HR1.out ?_)
   refine(how _).mono ?_
   rintro e w2 ⟨rfl,hb2⟩
   have HB2:=z2w (HB1.out.trans (hb2.mono HB1.out.size))
   have HR2:=z2w (HR1.out.below hb2 HR1.out.lt)
   clear hb2 how
   go_wp2_with (refine Z0 (by rfl) _ rfl rfl HR2.out ?_)
   refine(hsz _).mono ?_
   rintro e w3 ⟨rfl,hb3⟩
   have HB3:=z2w (HB2.out.trans (hb3.mono HB2.out.size))
   clear hb3 hsz
   go_wp2
   go_ret
   exact⟨rfl,HB3.out⟩
 ·have hdn:=True.intro
  rcases hc with ⟨rfl,rfl⟩|⟨rfl,rfl,rfl⟩|⟨rfl,rfl,hp,rfl⟩
  ·clear hdn how hsz
   go_enter Tryz.func147,Tryz.ntmps147
   go_wp2_with (refine zg rfl _ rfl rfl HR.out ?_)
   refine(hmp _).mono ?_
   rintro e w1 ⟨rfl,hb1⟩
   have HB1:=z2w (HB.out.trans (hb1.mono HB.out.size))
   clear hb1 hmp c0 c2 c3 c6 c9
   go_wp2
   go_ret
   exact⟨rfl,HB1.out⟩
  ·clear hdn hsz
   go_enter Tryz.func147,Tryz.ntmps147
   go_wp2_with (refine zg rfl _ rfl rfl HR.out ?_)
   refine(hmp _).mono ?_
   rintro e w1 ⟨rfl,hb1⟩
   have HB1:=z2w (HB.out.trans (hb1.mono HB.out.size))
   have HR1:=z2w (HR.out.below hb1 HR.out.lt)
   clear hb1 hmp c0 c2 c3 c6 c9
   go_wp2_with (refine Z0 (by rfl) _ rfl rfl HR1.out ?_)
   refine(how _).mono ?_
   rintro e w2 ⟨rfl,hb2⟩
   have HB2:=z2w (HB1.out.trans (hb2.mono HB1.out.size))
   clear hb2 how
   go_wp2
   go_ret
   exact⟨rfl,HB2.out⟩
  ·have hsz:=hsz (by omega) (by omega)
   generalize yo x.ty x.fl x.dn x.pad x.sn=Z at *
   clear hdn hp
   go_enter Tryz.func147,Tryz.ntmps147
   go_wp2_with (refine zg rfl _ rfl rfl HR.out ?_)
   refine(hmp _).mono ?_
   rintro e w1 ⟨rfl,hb1⟩
   have HB1:=z2w (HB.out.trans (hb1.mono HB.out.size))
   have HR1:=z2w (HR.out.below hb1 HR.out.lt)
   clear hb1 hmp c0 c2 c3 c6 c9
   go_wp2_with (refine Z0 (by rfl) _ rfl rfl HR1.out ?_)
   refine(how _).mono ?_
   rintro e w2 ⟨rfl,hb2⟩
   have HB2:=z2w (HB1.out.trans (hb2.mono HB1.out.size))
   have HR2:=z2w (HR1.out.below hb2 HR1.out.lt)
   clear hb2 how
   go_wp2_with (refine Z0 (by rfl) _ rfl rfl HR2.out ?_)
   refine(hsz _).mono ?_
   rintro e w3 ⟨rfl,hb3⟩
   have HB3:=z2w (HB2.out.trans (hb3.mono HB2.out.size))
   clear hb3 hsz
   go_wp2
   go_ret
   exact⟨rfl,HB3.out⟩
end
section
attribute [local irreducible] Fm.c
theorem qk:(Tryz.prog.info? 5).map (λi=>(i.zero,i.size,i.bytes))=some (some (.int .u8 0),1,1):=by kernel_rfl
theorem zr{P:Program}{t:TypeId}{z:Value}{n b:Nat}(h:(P.info? t).map (λi=>(i.zero,i.size,i.bytes))=some (some z,n,b)):∃i,P.info? t=some i∧i.zero=some z∧i.size=n∧i.bytes=b:=by
 cases hi:P.info? t with
 |none=>rw[hi] at h;simp at h
 |some i=>rw[hi] at h;simp at h;exact⟨i,rfl,h.1,h.2.1,h.2.2⟩
def y5(w:World)(base:Nat)(v:Value)(l:List UInt8)(e:Ending)(w':World):Prop:=∃v',e=.returned v'∧Bo w' base 5 v' l∧Fs (ob v) w w'∧Nx w v v'
theorem RdB.row{w:World}{B g:Nat}{t:TypeId}{cs:Array Value}{m:List UInt8}(h:Row w g t cs)(hc:cs.toList=byc m)(hg:g<B):RdB w B (some ⟨g,0,none⟩) m:=λ_=>⟨g,0,rfl,hg,λj hj=>by
 refine h.cell ?_
 rw[Nat.zero_add,←Array.getElem?_toList,hc]
 exact Qb hj⟩
theorem Qx(n:Nat):((UInt8.ofNat n).toNat:Int)=(n:Int)%256:=by rw[jx];omega
theorem zuz{n:Nat}(hn:n<4294967296):byc (be 4 n)=[.int .u8 ((n:Int) / 16777216),.int .u8 ((n:Int) / 65536%256),.int .u8 ((n:Int) / 256%256),.int .u8 ((n:Int)%256)]:=by
 rw[be4]
 simp only[byc,List.map_cons,List.map_nil,Qx]
 rw[show (((n / 16777216:Nat):Int)%256)=(n:Int) / 16777216 by omega,show (((n / 65536:Nat):Int)%256)=(n:Int) / 65536%256 by omega,show (((n / 256:Nat):Int)%256)=(n:Int) / 256%256 by omega]
theorem qp{n base:Nat}{v:Value}{l:List UInt8}{w:World}(hn:n<4294967296)(hO:Bo w base 5 v l)(hbase:base≤w.heap.size)(hl:l.length≤549755813888) :
  Calls Tryz.prog 149 #[v,.int .u32 (n:Int)] w (y5 w base v (l++be 4 n)):=by
 obtain⟨i0,hi0,hz0,hz1,hz2⟩:=zr qk
 go_enter Tryz.func149,Tryz.ntmps149
 go_wp2_with (at_builtin;go_loud (refine qx rfl (.tmp 5) (.tmp 17) 22 rfl base 5 i0 Tryz.underlying22 hi0 hz0 hz1 hz2 v l rfl (hO.alloc _) _ _ (be 4 n) _ _ rfl (zl 4 n).symm (RdB.row (Row.new w _ _) (zuz hn).symm (Nat.lt_succ_self _)) (by rw[zl];omega) (by simp;omega) ?_;intro v2 w2 h1 h2 h3))
 go_ret
 exact⟨v2,rfl,h1,((Fs.refl (ob v) w).alloc _).trans h2 λ_ _ h=>h,(Nx.refl w v).trans h3 (by simp)⟩
end
section
theorem zdl{a b k:Nat}(hb:b<2 ^ k)(h:a*2 ^ k+b<4294967296):bits .or .u32 ((a*2 ^ k:Nat):Int) (b:Int)=((a*2 ^ k+b:Nat):Int):=by
 have h2:a*2 ^ k<4294967296:=by omega
 rw[u32_or_nat _ b h2 (by omega),Nat.mul_comm]
 have:=Nat.two_pow_add_eq_or_of_lt hb a
 omega
theorem or4{n0 n1 n2 n3:Nat}(b0:n0<256)(b1:n1<256)(b2:n2<256)(b3:n3<256) :
  bits .or .u32 (bits .or .u32 (bits .or .u32 ((n0:Int)*16777216) ((n1:Int)*65536)) ((n2:Int)*256)) (n3:Int)=((n0*16777216+n1*65536+n2*256+n3:Nat):Int):=by
 have h1:=zdl (a:=n0) (b:=n1*65536) (k:=24) (by omega) (by omega)
 have h2:=zdl (a:=n0*256+n1) (b:=n2*256) (k:=16) (by omega) (by omega)
 have h3:=zdl (a:=n0*65536+n1*256+n2) (b:=n3) (k:=8) (by omega) (by omega)
 rw[show ((n0*2 ^ 24:Nat):Int)=(n0:Int)*16777216 by omega,show ((n1*65536:Nat):Int)=(n1:Int)*65536 by omega,show ((n0*2 ^ 24+n1*65536:Nat))=(n0*256+n1)*2 ^ 16 by omega] at h1
 rw[show ((n2*256:Nat):Int)=(n2:Int)*256 by omega,show (((n0*256+n1)*2 ^ 16+n2*256:Nat))=(n0*65536+n1*256+n2)*2 ^ 8 by omega] at h2
 rw[h1,h2,h3]
 omega
theorem or2{n0 n1:Nat}(b0:n0<256)(b1:n1<256):bits .or .u16 ((n0:Int)*256) (n1:Int)=((n0*256+n1:Nat):Int):=by
 rw[show (n0:Int)*256=((n0*256:Nat):Int) by omega,u16_or_nat _ n1 (by omega) (by omega),Nat.mul_comm]
 have h:256*n0+n1=256*n0 ||| n1:=Nat.two_pow_add_eq_or_of_lt (i:=8) (show n1<2 ^ 8 by omega) n0
 omega
theorem ztr{n:Nat}(h:n<4294967296):bits .and .u32 (n:Int) 2147483647=((n%2147483648:Nat):Int):=by
 rw[show (2147483647:Int)=((2 ^ 31-1:Nat):Int) from rfl,u32_and_nat n _ h (by omega),Nat.and_two_pow_sub_one_eq_mod]
theorem zwg{n:Nat}(h:n<4294967296):bits .and .u32 (n:Int) 2147483648=((n / 2147483648*2147483648:Nat):Int):=by
 rw[show (2147483648:Int)=((2147483648:Nat):Int) from rfl,u32_and_nat n _ h (by omega)]
 congr 1
 have h1:n / 2147483648=0∨n / 2147483648=1:=by omega
 have h2:n &&& 2147483648=(n / 2 ^ 31 &&& 1)*2 ^ 31+(n%2 ^ 31 &&& 0):=by
  apply Nat.eq_of_testBit_eq
  intro i
  rw[Nat.and_zero,Nat.add_zero,Nat.testBit_and,Nat.testBit_mul_two_pow,Nat.testBit_and,Nat.testBit_div_two_pow]
  rw[show (2147483648:Nat)=2 ^ 31 from rfl,Nat.testBit_two_pow]
  by_cases hi:31=i
  ·subst hi;simp
  ·by_cases h31:31≤i
   ·have:(1:Nat).testBit (i-31)=false:=by
     rw[show (1:Nat)=2 ^ 0 from rfl,Nat.testBit_two_pow]
     simp
     omega
    simp[hi,this]
   ·simp[hi,h31]
 rw[h2,Nat.and_zero,Nat.add_zero,Nat.and_one_is_mod]
 omega
theorem xj{B:Nat}{A:Option Addr}{c:Nat}{l:List UInt8}{w:World}(hr:RdB w B A l)(hl:4≤l.length)(hc:l.length≤1099511627776) :
  Calls Tryz.prog 189 #[.slice A l.length c] w λe w'=>e=.returned (.int .u32 (zt (l.take 4):Nat))∧∃n,w'=w.drewN n:=by
 obtain⟨g,o,rfl,_,hcell⟩:=hr (by intro e;rw[e] at hl;simp at hl)
 obtain⟨a0,a1,a2,a3,r,hL⟩:=z2f hl
 have c0:w.cell? ⟨g,o,none⟩=some (.int .u8 (a0.toNat:Int)):=by have:=hcell 0 (by omega);simpa [hL] using this
 have c1:w.cell? ⟨g,o+1,none⟩=some (.int .u8 (a1.toNat:Int)):=by have:=hcell 1 (by omega);simpa [hL] using this
 have c2:w.cell? ⟨g,o+2,none⟩=some (.int .u8 (a2.toNat:Int)):=by have:=hcell 2 (by omega);simpa [hL] using this
 have c3:w.cell? ⟨g,o+3,none⟩=some (.int .u8 (a3.toNat:Int)):=by have:=hcell 3 (by omega);simpa [hL] using this
 have hv:zt (l.take 4)=a0.toNat*16777216+a1.toNat*65536+a2.toNat*256+a3.toNat:=by rw[hL];exact z1l a0 a1 a2 a3
 rw[hv]
 have b0:=a0.toNat_lt
 have b1:=a1.toNat_lt
 have b2:=a2.toNat_lt
 have b3:=a3.toNat_lt
 clear hcell hr hL hv
 generalize l.length=n at *
 generalize a0.toNat=n0 at *
 generalize a1.toNat=n1 at *
 generalize a2.toNat=n2 at *
 generalize a3.toNat=n3 at *
 have m0:(0:Int)<(n:Int):=by omega
 have m1:(1:Int)<(n:Int):=by omega
 have m2:(2:Int)<(n:Int):=by omega
 have m3:(3:Int)<(n:Int):=by omega
 go_enter Tryz.func189,Tryz.ntmps189
 go_wp2
 go_quiet (fail)
 go_wp2
 go_ret
 exact⟨zgs (or4 b0 b1 b2 b3),_,rfl⟩
theorem zb5(l:List UInt8):zt (l.take 4)<4294967296:=by
 have h1:=zjj (l.take 4)
 have h2:256 ^ (l.take 4).length≤256 ^ 4:=Nat.pow_le_pow_right (by omega) (by simp;omega)
 omega
theorem Za{B:Nat}{A:Option Addr}{c:Nat}{l:List UInt8}{w:World}(hr:RdB w B A l)(hl:4≤l.length)(hc:l.length≤1099511627776) :
  Calls Tryz.prog 162 #[.slice A l.length c] w λe w'=>e=.returned (.int .u32 (zt (l.take 4)%2147483648:Nat))∧∃n,w'=w.drewN n:=by
 have hn:=xj (c:=c) hr hl hc
 have ha:=ztr (zb5 l)
 generalize zt (l.take 4)=v at *
 clear hr
 go_enter Tryz.func162,Tryz.ntmps162
 go_wp2_with fail
 refine hn.mono ?_
 rintro e w1 ⟨rfl,nq,rfl⟩
 go_wp2_with fail
 go_ret
 exact⟨zgs (by omega),nq,rfl⟩
theorem z18(a b c:UInt8):zt [a,b,c]=a.toNat*65536+b.toNat*256+c.toNat:=by simp only[zt,List.foldl_cons,List.foldl_nil];omega
theorem z0q{l:List UInt8}(h:3≤l.length):∃a b c r,l=a :: b :: c :: r:=by
 match l,h with
 |a :: b :: c :: r,_=>exact⟨a,b,c,r,rfl⟩
theorem zkg{A:Option Addr}{c n:Nat}{w:World}(hl:n<9) :
  Calls Tryz.prog 125 #[.slice A n c] w λe w'=>e=.returned (.tuple #[.int .i64 0,.bool false])∧w'=w:=by
 have h:(n:Int)<9:=by omega
 go_enter Tryz.func125,Tryz.ntmps125
 go_wp2
 go_ret2
 exact⟨rfl,rfl⟩
theorem z0w{a b:Int}{v:Value}(h:a=b):Ending.returned (.tuple #[.int .i64 a,v])=.returned (.tuple #[.int .i64 b,v]):=by rw[h]
theorem Xf{B:Nat}{A:Option Addr}{c:Nat}{l:List UInt8}{w:World}(hr:RdB w B A l)(hl:9≤l.length)(hc:l.length≤1099511627776) :
  Calls Tryz.prog 125 #[.slice A l.length c] w λe w'=>e=.returned (.tuple #[.int .i64 (9+zt (l.take 3):Nat),.bool true])∧∃n,w'=w.drewN n:=by
 obtain⟨g,o,rfl,_,hcell⟩:=hr (by intro e;rw[e] at hl;simp at hl)
 obtain⟨a0,a1,a2,r,hL⟩:=z0q (l:=l) (by omega)
 have c0:w.cell? ⟨g,o,none⟩=some (.int .u8 (a0.toNat:Int)):=by have:=hcell 0 (by omega);simpa [hL] using this
 have c1:w.cell? ⟨g,o+1,none⟩=some (.int .u8 (a1.toNat:Int)):=by have:=hcell 1 (by omega);simpa [hL] using this
 have c2:w.cell? ⟨g,o+2,none⟩=some (.int .u8 (a2.toNat:Int)):=by have:=hcell 2 (by omega);simpa [hL] using this
 have hv:zt (l.take 3)=a0.toNat*65536+a1.toNat*256+a2.toNat:=by rw[hL];exact z18 a0 a1 a2
 rw[hv]
 have b0:=a0.toNat_lt
 have b1:=a1.toNat_lt
 have b2:=a2.toNat_lt
 clear hcell hr hL hv
 generalize l.length=n at *
 generalize a0.toNat=n0 at *
 generalize a1.toNat=n1 at *
 generalize a2.toNat=n2 at *
 have m0:(0:Int)<(n:Int):=by omega
 have m1:(1:Int)<(n:Int):=by omega
 have m2:(2:Int)<(n:Int):=by omega
 have m9:decide ((n:Int)<9)=false:=by simp;omega
 go_enter Tryz.func125,Tryz.ntmps125
 go_wp2
 go_quiet (fail)
 go_wp2
 go_ret2
 exact⟨z0w (by omega),_,rfl⟩
end
section
def sgc(s:Nat × Nat):List Value:=[.int .u16 (s.1:Int),.int .u32 (s.2:Int)]
theorem zdm(s:Nat × Nat):(sgc s).length=2:=rfl
def Frm.fm(f:Frm)(dA:Option Addr)(dc:Nat)(sA:Option Addr)(sc:Nat):Fm:=⟨f.ty,f.fl,f.st,dA,f.dat.length,dc,f.pad,f.code,f.oth,f.wt,f.al,f.win,sA,f.sets.length,sc⟩
theorem RdS.sett{w:World}{S:Nat→Prop}{A:Option Addr}{L:List (Nat × Nat)}(h:RdS w S A (enl sgc L)){i:Nat}(hi:i<L.length):∃b q,A=some ⟨b,q,none⟩∧S b∧
  w.cell? ⟨b,q+i*2,none⟩=some (.int .u16 (L[i].1:Int))∧w.cell? ⟨b,q+i*2+1,none⟩=some (.int .u32 (L[i].2:Int)):=by
 have hne:enl sgc L≠[]:=by
  intro e
  have:=yi zdm L
  rw[e] at this
  simp at this
  omega
 obtain⟨b,q,hA,hb,hcl⟩:=h hne
 have h0:=hcl (i*2+0) _ (by rw[Q7 zdm hi (by omega)];rfl)
 have h1:=hcl (i*2+1) _ (by rw[Q7 zdm hi (by omega)];rfl)
 exact⟨b,q,hA,hb,by simpa using h0,by rw[Nat.add_assoc];exact h1⟩
theorem zwi{n:Nat}(hn:n<65536):byc (be 2 n)=[.int .u8 ((n:Int) / 256),.int .u8 ((n:Int)%256)]:=by
 rw[be2]
 simp only[byc,List.map_cons,List.map_nil,Qx]
 rw[show (((n / 256:Nat):Int)%256)=(n:Int) / 256 by omega]
theorem zl5{l:List (Nat × Nat)}{k:Nat}(h:k<l.length):qt (l.take (k+1))=qt (l.take k)++(be 2 l[k].1++be 4 l[k].2):=by
 rw[List.take_succ_eq_append_getElem h,zlh]
attribute [local irreducible] Fm.c qt be
theorem zio(f:Frm)(h:f.ty=4)(hset:∀s∈f.sets,s.1<65536∧s.2<4294967296)(hn:f.sets.length≤1000000){dA sA:Option Addr}{dc sc:Nat}{base:Nat}{v:Value}{l:List UInt8}{w:World}{R:Nat→Prop}(hR:RdS w R sA (enl sgc f.sets))(hRb:∀k,R k→k<w.heap.size∧¬ob v k)
  (hO:Bo w base 5 v l) (hbase:base≤w.heap.size) (hl:l.length≤1000000) :
  Calls Tryz.prog 151 #[v,.agg (f.fm dA dc sA sc).c] w (y5 w base v (l++qt f.sets)):=by
 obtain⟨i0,hi0,hz0,hz1,hz2⟩:=zr qk
 have HX:=z2w (Row.new w 66 (f.fm dA dc sA sc).c)
 have HO1:Hid (Bo (w.alloc (.cells (f.fm dA dc sA sc).c 66)) base 5 v l):=hO.alloc (.cells (f.fm dA dc sA sc).c 66)
 have HF1:Hid (Fs (ob v) w (w.alloc (.cells (f.fm dA dc sA sc).c 66))):=(Fs.refl _ w).alloc _
 have HR:=z2w hR
 have HRb:=z2w hRb
 have HVL:Hid (∀k,ob v k→k<w.heap.size):=λk hk=>(OwS.lt hO k hk).2
 have HST:=z2w hset
 have HTn:Hid (qt (f.sets.take f.sets.length)=qt f.sets):=by show _=_;rw[List.take_length]
 have HT0:Hid (l++qt (f.sets.take 0)=l):=by show _=_;rw[List.take_zero,zoc,List.append_nil]
 have HTk:Hid (∀k,(hk:k<f.sets.length)→qt (f.sets.take (k+1))=qt (f.sets.take k)++(be 2 f.sets[k].1++be 4 f.sets[k].2)):=λk hk=>zl5 hk
 have HTl:Hid (∀k,(qt (f.sets.take k)).length≤6000000):=λk=>by rw[Jc,List.length_take];omega
 have hN2:Hid (Nx w v v):=Nx.refl w v
 obtain⟨c0,_,_,_,_,_,_,_,_,_,c10⟩:=zf HX.out
 have c0':(w.alloc (.cells (f.fm dA dc sA sc).c 66)).cell? ⟨w.heap.size,0,none⟩=some (Value.int .u8 ((f.ty:Nat):Int)):=c0
 have c10':(w.alloc (.cells (f.fm dA dc sA sc).c 66)).cell? ⟨w.heap.size,10,none⟩=some (.slice sA f.sets.length sc):=c10
 rw[h] at c0'
 have hs1:w.heap.size<(w.alloc (.cells (f.fm dA dc sA sc).c 66)).heap.size:=HX.out.lt
 clear c0 c10 hO hR hRb hset HX
 go_enter Tryz.func151,Tryz.ntmps151
 go_wp2_with fail
 generalize w.alloc (.cells (f.fm dA dc sA sc).c 66)=w0 at *
 clear c0' c10' h
 go_loopw [0,44] (λb i wr=>∃(k:Nat) (vr:Value),k≤f.sets.length∧i=.int .i64 k∧vr=b∧Hid (Bo wr base 5 vr (l++qt (f.sets.take k)))∧Hid (Fs (ob v) w wr)∧Hid (Nx w v vr))
  (λ_ i _=>f.sets.length-(intOf i).toNat)
 case atStart=>exact⟨0,v,Nat.zero_le _,rfl,rfl,by show Bo _ _ _ _ _;rw[HT0.out];exact HO1.out,HF1,hN2⟩
 case round=>
  clear HO1 HF1 hN2 HT0
  obtain⟨k,vr,hk,rfl,rfl,hO,hF,hN⟩:=hrel
  by_cases hlt:k<f.sets.length
  ·have hRw:RdS wr R sA (enl sgc f.sets):=hF.out.reads HR.out λk hk=>HRb.out k hk
   obtain⟨b,q,rfl,hb,f0,f1⟩:=hRw.sett hlt
   have hb2:=HST.out _ (List.getElem_mem hlt)
   have HT:=z2w (HTk.out k hlt)
   have htl:=HTl.out k
   have hsz:=hF.out.size
   generalize f.sets[k].1=a at *
   generalize f.sets[k].2=z at *
   generalize qt (f.sets.take k)=Z at *
   obtain⟨ha,hz⟩:=hb2
   have hbc:=zwi ha
   have hb4:(be 2 a).length=2:=zl 2 a
   have hbwr:base≤wr.heap.size:=by omega
   generalize be 2 a=B2 at *
   have HOl:=z2w λj hj=>(OwS.lt hO.out j hj).2
   have HSb:Hid (Row (wr.alloc (.cells #[.int .u16 (a:Int),.int .u32 (z:Int)] 164)) wr.heap.size 164 #[.int .u16 (a:Int),.int .u32 (z:Int)]):=Row.new _ _ _
   have HL2:Hid (Row ((wr.alloc (.cells #[.int .u16 (a:Int),.int .u32 (z:Int)] 164)).alloc (.cells #[.int .u8 ((a:Int) / 256),.int .u8 ((a:Int)%256)] 5)) (wr.heap.size+1) 5 #[.int .u8 ((a:Int) / 256),.int .u8 ((a:Int)%256)]):=Row.made _ _ _ (by simp)
   have hpn:=λ(W:World) (u:Value) (h1:Bo W base 5 u (l++Z++B2)) (h2:base≤W.heap.size)=>qp hz h1 h2 (by rw[List.length_append,List.length_append];omega)
   clear hRw
   go_wp2_with (at_builtin;go_loud (refine qx rfl (.tmp 48) (.tmp 56) 22 rfl base 5 i0 Tryz.underlying22 hi0 hz0 hz1 hz2 vr (l++Z) rfl (OwS.alloc (OwS.alloc hO.out _) _) _ _ B2 _ _ rfl hb4.symm (RdB.row HL2.out hbc.symm HL2.out.lt) (by rw[List.length_append];omega) (by simp;omega) ?_;intro v3 w3 hO3 hF3 hN3;have hS3:=hF3.row (λe=>by have:=HOl.out _ e;omega) (HSb.out.alloc (.cells #[.int .u8 ((a:Int) / 256),.int .u8 ((a:Int)%256)] 5));have d1:w3.cell? ⟨wr.heap.size,1,none⟩=some (.int .u32 (z:Int)):=hS3.cell (j:=1) rfl;have HO3:=z2w hO3;have HF3:Hid (Fs (ob vr) wr w3):=(((Fs.refl _ wr).alloc _).alloc _).trans hF3 λ_ _ h=>h;have HN3:=z2w ((Nx.refl wr vr).trans hN3 (by simp;omega));clear hO3 hF3 hN3 hS3))
   have hb3:base≤w3.heap.size:=by have:=HF3.out.size;omega
   refine(hpn w3 v3 HO3.out hb3).mono ?_
   rintro e w4 ⟨v4,rfl,hO4,hF4,hN4⟩
   have HF4:Hid (Fs (ob v) w w4):=hF.out.next hN.out (HF3.out.next HN3.out hF4)
   have HN4:=z2w (hN.out.trans (HN3.out.trans hN4 HF3.out.size) hF.out.size)
   have HO4:Hid (Bo w4 base 5 v4 (l++qt (f.sets.take (k+1)))):=by
    show Bo _ _ _ _ _
    rw[HT.out]
    simpa only[List.append_assoc] using hO4
   clear hO4 hF4 hN4 hpn d1
   go_wp2_with fail
   go_roundw
   case rel=>exact⟨k+1,v4,by omega,by go_num,rfl,HO4,HF4,HN4⟩
   case measure=>simp[intOf];omega
  ·obtain rfl:k=f.sets.length:=by omega
   go_wp2_with fail
   go_ret
   have:=hO.out
   rw[HTn.out] at this
   exact⟨_,rfl,this,hF.out,hN.out⟩
end
section
def tb(l:List UInt8):ByteArray:=⟨l.toArray⟩
theorem Qs(l:List UInt8):(tb l).size=l.length:=by simp[tb,ByteArray.size]
theorem zy6:tb []=⟨#[]⟩:=rfl
theorem zo4(a b:List UInt8):tb a++tb b=tb (a++b):=by unfold tb;rw[ByteArray.mk_append_mk]
theorem zl6(l:List UInt8)(i j:Nat):(tb l).extract i j=tb ((l.drop i).take (j-i)):=by unfold tb;rw[ByteArray.extract_mk]
theorem Yk(a b:List UInt8)(ha:a.length≤1000000)(hb:b.length≤1000000)(W:World):(Op.stringOp .add (tb a) (tb b)).run Tryz.prog W=.ok (.string (tb (a++b))) W:=by
 rw[←zo4]
 exact run_string_add W (tb a) (tb b) (by rw[Qs];omega) (by rw[Qs];omega)
theorem zwc(l:List UInt8)(j:Int)(h0:0≤j)(hj:j≤l.length)(W:World):(Instr.slice 9 (.string (tb l)) none (some (.int .i64 j)) none).run Tryz.prog W=.ok (.string (tb (l.take j.toNat))) W:=by
 have h:=run_slice_string_h (P:=Tryz.prog) (s:=tb l) W 9 Tryz.underlying9 .i64 j h0 (by rw[Qs];omega)
 rw[h,zl6]
 simp
theorem z0l(x:Nat)(hx:x<256)(W:World):(convert 22 9 (.slice (some ⟨W.heap.size,0,none⟩) 1 1)).run Tryz.prog (W.alloc (.cells #[.int .u8 (x:Int)] 5))=.ok (.string (tb [UInt8.ofNat x])) (W.alloc (.cells #[.int .u8 (x:Int)] 5)):=by
 have hb:(#[Value.int .u8 (x:Int)]).toList=byc [UInt8.ofNat x]:=by simp[byc];omega
 exact y0 (P:=Tryz.prog) (l:=[UInt8.ofNat x]) (c:=1) Tryz.underlying22 Tryz.underlying5 Tryz.underlying9 (RdB.row (B:=W.heap.size+1) (Row.new W _ _) hb (Nat.lt_succ_self _))
theorem zu4(k n:Nat):UInt8.ofNat (n / 256 ^ k%256) :: be k n=be (k+1) n:=by
 show _=UInt8.ofNat (n / 256 ^ k) :: be k n
 congr 1
 rw[←UInt8.toNat_inj]
 simp
theorem zaw(n m:Nat)(hn:n<18446744073709551616)(hm:m≤8)(w:World):Calls Tryz.prog 62 #[.int .u64 n,.int .i64 m] w λe w'=>e=.returned (.string (tb (be m n)))∧Below w.heap.size w w':=by
 go_enter Tryz.func62,Tryz.ntmps62
 go_wp2_with fail
 go_loopw [0,5,6] (λa s i wr=>∃(k q:Nat) (x:List UInt8),k≤m∧a=.int .u64 q∧q<18446744073709551616∧i=.int .i64 k∧s=.string (tb x)∧x.length=k∧Hid (q=n / 256 ^ k)∧Hid (x=be k n)∧Hid (Below w.heap.size w wr)) (λ_ _ i _=>m-(intOf i).toNat)
 case atStart=>exact⟨0,n,[],Nat.zero_le _,rfl,hn,rfl,rfl,rfl,by show _=_;simp,by show _=_;rfl,Below.refl _ _⟩
 case round=>
  obtain⟨k,q,x,hk,rfl,hq,rfl,rfl,hxl,hqe,hxe,hB⟩:=hrel
  by_cases hlt:k<m
  ·have hX2:Hid (UInt8.ofNat (q%256) :: x=be (k+1) n):=by show _=_;rw[hqe.out,hxe.out];exact zu4 k n
   have hQ2:Hid (q / 256=n / 256 ^ (k+1)):=by show _=_;rw[hqe.out,Nat.pow_succ,Nat.div_div_eq_div_mul]
   have hxl9:x.length≤9:=by omega
   have HXL:=z2w hxl
   obtain⟨d,hd⟩:∃d,d=q%256:=⟨_,rfl⟩
   have hd256:d<256:=by omega
   have hm1:(q:Int)%256=(d:Int):=by omega
   rw[←hd] at hX2
   have hadd:=Yk [UInt8.ofNat d] x (by simp) (by omega)
   have ht1:=z0l d hd256
   clear hqe hxe hxl hd
   go_wp2_with fail
   have hsz:=hB.out.size
   go_roundw
   case rel=>exact⟨k+1,q / 256,UInt8.ofNat d :: x,by omega,by go_num,by omega,by go_num,rfl,by simp;exact HXL.out,hQ2,hX2,hB.out.alloc hsz _⟩
   case measure=>simp[intOf];omega
  ·obtain rfl:k=m:=by omega
   go_wp2_with fail
   go_ret
   rw[←hxe.out]
   exact⟨rfl,hB.out⟩
end
section
open Go.ChangeShapes Go.WideShapes Go.RowKit
theorem zst : Tryz.prog.globalNamed "errors.errorType" = some 0 := by kernel_rfl
theorem z1d : (Tryz.prog.cutTypes.find? (·.1 == "internal/reflectlite.rtype")).map (·.2) = some 285 := by kernel_rfl
theorem zyp:((List.range 354).filter λt=>Tryz.prog.rowNamed t [101,114,114,111,114])=[120]:=by kernel_rfl
theorem znt:Tryz.prog.types.size=354:=by kernel_rfl
theorem zie{W : World}{l : List (String × DataW Unit)}(h : handlesMet Tryz.prog l W)(hm : ("errors.errorType", Rows.laid_errors_errorType) ∈ l) : GlobE W := by
 obtain⟨name,u,ty,e1,e2,e3,e4,e5⟩:=h _ hm
 have en:name=[101,114,114,111,114]:=(Option.some.inj e1).symm
 subst en
 obtain rfl:=Option.some.inj (z1d.symm.trans e2)
 have hmem:ty∈(List.range 354).filter λt=>Tryz.prog.rowNamed t [101,114,114,111,114]:=List.mem_filter.2 ⟨List.mem_range.2 (by rw[←znt];exact e3),e4⟩
 rw[zyp] at hmem
 obtain rfl:=List.mem_singleton.1 hmem
 have hh:typeHandle Tryz.prog 120=.pointer (some ⟨1,120,none⟩):=by kernel_rfl
 rw[hh] at e5
 have:=World.var?_cell zst e5 0
 unfold GlobE
 simpa using this
def zyx(w:World)(g:Nat)(cs:Array Value):World:={ w with heap:=w.heap.modify g fun
   |.cells _ t frozen=>.cells cs t frozen
   |o=>o }
noncomputable def Vn (os:Os):World:=zyx (World.holding Tryz.prog os ⟨#[],#[],[]⟩) 0 #[.iface 285 (.agg #[.pointer (some ⟨1,120,none⟩)])]
end
section
section
variable {P:Program}{ops:Array Oper}{Q:Exit→Act→World→Prop}{md:Region.Mode}{S:World→Prop}{n:Nat}
theorem tkE(i:Nat){oi:Oper}{v:Value}{fuel:Nat}{listed:Array Bool}{a a':Act}{w:World}(h:xk P md ops Q S n fuel (listed.setIfInBounds i true) a' w)
  (hi:ops[i]?=some oi:=by rfl) (hs:zb4 md ops n=true:=by kernel_rfl) (hn:(zaa md ops n listed&&decide (i<n))=true:=by kernel_rfl) (hf:Region.free md ops listed i=true:=by kernel_rfl) (hr:(Region.ready md ops listed).contains i=true:=by kernel_rfl)
  (hw:Region.wanted oi (yielded ops a.tmps)=true:=by rfl)
  (hy:∀w,S w→(execOp a.eval oi).run P w=.ok (.value v) w:=by(intro w hSw;(try dsimp only at hSw);go_simp<;>with_reducible rfl))
  (hQ:∀c a w,Q (.panic c) (a.put oi.dst v) w→Q (.panic c) a w:=by exact λ_ _ _ h=>h) (hS:S w:=by assumption)
  (ha:a.put oi.dst v=a':=by(simp only[Act.put,List.getElem_toArray,List.getElem_cons_zero,List.getElem_cons_succ,List.setIfInBounds_toArray,List.set_cons_zero,List.set_cons_succ]<;>rfl)):xk P md ops Q S n (fuel+1) listed a w:=by
 subst ha
 exact X9 hi hs hn hf hr hQ (.inl ⟨hw,hy⟩) hS h
theorem z2v(i:Nat){oi:Oper}{fuel:Nat}{listed:Array Bool}{a a':Act}{w:World}(h:xk P md ops Q S n fuel (listed.setIfInBounds i true) a' w)
  (hi:ops[i]?=some oi:=by rfl) (hs:zb4 md ops n=true:=by kernel_rfl) (hn:(zaa md ops n listed&&decide (i<n))=true:=by kernel_rfl) (hf:Region.free md ops listed i=true:=by kernel_rfl) (hr:(Region.ready md ops listed).contains i=true:=by kernel_rfl)
  (hw:Region.wanted oi (yielded ops a.tmps)=false:=by rfl)
  (hQ:∀c a w,Q (.panic c) (a.put oi.dst undef) w→Q (.panic c) a w:=by exact λ_ _ _ h=>h) (hS:S w:=by assumption)
  (ha:a.put oi.dst undef=a':=by(simp only[Act.put,List.getElem_toArray,List.getElem_cons_zero,List.getElem_cons_succ,List.setIfInBounds_toArray,List.set_cons_zero,List.set_cons_succ]<;>rfl)):xk P md ops Q S n (fuel+1) listed a w:=by
 subst ha
 exact X9 hi hs hn hf hr hQ (.inr ⟨hw,rfl⟩) hS h
theorem zht(i:Nat){oi:Oper}{v:Value}{fuel:Nat}{listed:Array Bool}{a a':Act}{w:World}(hi:ops[i]?=some oi)(hy:YieldsIf P ops S oi v a)(h:xk P md ops Q S n fuel (listed.setIfInBounds i true) a' w)
  (hs:zb4 md ops n=true:=by kernel_rfl) (hn:(zaa md ops n listed&&decide (i<n))=true:=by kernel_rfl) (hf:Region.free md ops listed i=true:=by kernel_rfl) (hr:(Region.ready md ops listed).contains i=true:=by kernel_rfl)
  (hQ:∀c a w,Q (.panic c) (a.put oi.dst v) w→Q (.panic c) a w:=by exact λ_ _ _ h=>h) (hS:S w:=by assumption)
  (ha:a.put oi.dst v=a':=by(simp only[Act.put,List.getElem_toArray,List.getElem_cons_zero,List.getElem_cons_succ,List.setIfInBounds_toArray,List.set_cons_zero,List.set_cons_succ]<;>rfl)):xk P md ops Q S n (fuel+1) listed a w:=by
 subst ha
 exact X9 hi hs hn hf hr hQ hy hS h
end
end
section
def xt(s c:Int):Array Value:=#[.int .u8 s,.int .u32 c]
theorem znj(s c s' c':Int):(xt s c).size=(xt s' c').size:=rfl
theorem z2n:#[Value.int .u8 0,.int .u32 0]=xt 0 0:=rfl
theorem zpw:(Tryz.prog.info? 29).map (·.size)=some 2:=by kernel_rfl
theorem zb9(s c:Int):AgOk Tryz.prog 29 (xt s c):=⟨⟨_,Tryz.underlying29⟩,zpw,by unfold xt;kernel_rfl⟩
theorem zw8(a b:Int):(a == b)=decide (a=b):=by
 by_cases h:a=b
 ·subst h;simp
 ·simp[h]
section
variable {P:Program}
end
theorem zt3{a b:Int}(h:a≠b):(a == b)=false:=by rw[zw8];exact decide_eq_false h
end
end Go.Proofs.YtooaajnkiokpnaaGreatDoor
