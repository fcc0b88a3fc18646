/-
  Part of a proof: the program's getRest, by its contract: what the bytes behind the first one tell. Conditions: those that each theorem names.
-/
import Derived.Test.YtooaajnkiokpnaaGreatDoorQ01
import Derived.Test.YtooaajnkiokpnaaGreatDoorQ12
import Derived.Test.YtooaajnkiokpnaaGreatDoorQ17
import Derived.Test.YtooaajnkiokpnaaGreatDoorQ18
import Derived.IntWalk
import Derived.Lib.MinMax
import Derived.Test.YtooaajnkiokpnaaGreatDoorQ16
import Derived.Deep.RegionHeld3
namespace Go.Proofs.YtooaajnkiokpnaaGreatDoor
open Go.RowKit Go.WideShapes
set_option maxHeartbeats 4000000
set_option maxRecDepth 100000
section
theorem zlk(i0:TypeInfo)(hi0:Tryz.prog.info? 5=some i0)(hz0:i0.zero=some (.int .u8 0))(hz1:i0.size=1)(hz2:i0.bytes=1)(n:Nat)(hn:n≤4000)(W:World) :
  (Instr.makeSlice 22 (.int .i64 0) (.int .i64 ((n:Int)+1+4))).run Tryz.prog W=.ok (.slice (some ⟨W.heap.size,0,none⟩) 0 (n+5)) (W.alloc (.cells (madeCells #[Value.int .u8 0] (n+5)) 5)):=by
 have:=run_make (P:=Tryz.prog) W 22 5 i0 (.int .u8 0) Tryz.underlying22 hi0 hz0 .i64 .i64 0 ((n+5:Nat):Int) (by omega) (by omega) (by rw[hz2];omega) (by omega)
 rw[show ((n:Int)+1+4)=((n+5:Nat):Int) by omega,this,hz1,Nat.mul_one]
 rfl
theorem zex(w:World)(n:Nat)(hn:n≤4000):OwB (w.alloc (.cells (madeCells #[Value.int .u8 0] (n+5)) 5)) w.heap.size 5 (.slice (some ⟨w.heap.size,0,none⟩) 0 (n+5)) []:=
 OwB.fresh w 5 _ _ (by rw[size_madeCells]) (by simp only[maxLen];omega) (Nat.le_refl _)
theorem zjo(k a n:Nat)(h1:1≤k)(h8:k≤8)(ha:a<256)(hn:n≤268435456)(A:Option Addr)(c:Nat)(b:List UInt8)(hb:b.length≤4000)(w:World)(hr:RdB w w.heap.size A b) :
  Calls Tryz.prog 176 #[.slice A b.length c,.int .i64 k,.int .u8 a,.int .u32 n] w (zxu w (b++Z7 k a n)):=by
 obtain⟨i0,hi0,hz0,hz1,hz2⟩:=jw yp
 have hmk:=zlk i0 hi0 hz0 hz1 hz2 b.length hb
 have hp:=Yq h1 h8
 have hlt:=zo2 h1 h8 ha
 have hnot:=zo5 h1 h8 ha
 have hone:=zf1 k
 generalize ht:2 ^ k-1=t at hp hlt hnot hone
 obtain⟨p1,p2,_,_⟩:=hp
 have HT:=z2w ht
 clear ht
 have hwt:IntKind.u8.wrap (t:Int)=t:=by rw[IntKind.wrap_u8'];omega
 by_cases hs:n<t
 ·have hor:bits .or .u8 (hiN k a:Int) (n:Int)=((hiN k a+n:Nat):Int):=zty h1 h8 ha (by rw[HT.out];omega)
  have hwn:IntKind.u8.wrap (n:Int)=n:=by rw[IntKind.wrap_u8'];omega
  have hmin:min (n:Int) (t:Int)=n:=by omega
  go_enter Tryz.func176,Tryz.ntmps176
  go_wp2_with (first
   |(at_builtin;refine X6 rfl (.tmp 16) (.tmp 17) _ rfl w.heap.size 5 i0 Tryz.underlying22 hi0 hz0 hz1 hz2 _ [] rfl (zex w b.length hb) w.heap.size A b _ c rfl rfl (hr.alloc (Nat.le_refl _) _) (by simp;omega) (by simp) ?_;intro A1 c1 L1 w1 hL1 ho1 hb1)
   |(go_at_call 210;refine(Xk _ _ (by omega) (by omega)).mono ?_;rintro e w' ⟨rfl,rfl⟩)
   |(go_at_call 211;refine(hone _ h1 h8).mono ?_;rintro e w' ⟨rfl,rfl⟩)
   |(at_builtin;go_loud (refine yy rfl (.tmp 29) (.tmp 39) _ rfl w.heap.size 5 i0 Tryz.underlying22 hi0 hz0 hz1 hz2 _ L1 rfl (World.ownsRow.alloc ho1 _) w1.heap.size _ _ rfl (Qk _ _ _ _) (by omega) (by omega) (by have:=hL1.out;simp at this;rw[this];omega) (by have:=hb1.size;simp at this ⊢;omega) ?_;intro A2 c2 L2 w2 hL2 ho2 hb2)))
  go_ret
  have e:L2=b++Z7 k a n:=by
   rw[hL2.out,hL1.out,zld (by rw[HT.out];exact hs),List.nil_append]
   congr 3
  subst e
  exact⟨A2,c2,rfl,ho2,(((Below.refl _ _).alloc (Nat.le_refl _) _).trans hb1).trans (((Below.refl _ _).alloc (by have:=hb1.size;simp at this;omega) _).trans hb2)⟩
 ·have hor:bits .or .u8 (hiN k a:Int) (t:Int)=((hiN k a+t:Nat):Int):=zty h1 h8 ha (by rw[HT.out];omega)
  have hmin:(if t<n then (t:Int) else (n:Int))=t:=by split<;>omega
  have hmin2:min (n:Int) (t:Int)=(t:Int):=by omega
  have hd:decide ((n:Int)<t)=false:=by simp;omega
  have hle:t≤n:=by omega
  go_enter Tryz.func176,Tryz.ntmps176
  go_wp2_with (first
   |(at_builtin;refine X6 rfl (.tmp 16) (.tmp 17) _ rfl w.heap.size 5 i0 Tryz.underlying22 hi0 hz0 hz1 hz2 _ [] rfl (zex w b.length hb) w.heap.size A b _ c rfl rfl (hr.alloc (Nat.le_refl _) _) (by simp;omega) (by simp) ?_;intro A1 c1 L1 w1 hL1 ho1 hb1)
   |(go_at_call 210;refine(Xk _ _ (by omega) (by omega)).mono ?_;rintro e w' ⟨rfl,rfl⟩)
   |(go_at_call 211;refine(hone _ h1 h8).mono ?_;rintro e w' ⟨rfl,rfl⟩)
   |(at_builtin;go_loud (refine yy rfl (.tmp 29) (.tmp 39) _ rfl w.heap.size 5 i0 Tryz.underlying22 hi0 hz0 hz1 hz2 _ L1 rfl (World.ownsRow.alloc ho1 _) w1.heap.size _ _ rfl (Qk _ _ _ _) (by omega) (by omega) (by have:=hL1.out;simp at this;rw[this];omega) (by have:=hb1.size;simp at this ⊢;omega) ?_;intro A2 c2 L2 w2 hL2 ho2 hb2)))
  have hB2:Below w.heap.size w w2:=(((Below.refl _ _).alloc (Nat.le_refl _) _).trans hb1).trans (((Below.refl _ _).alloc (by have:=hb1.size;simp at this;omega) _).trans hb2)
  have e:L2=b++[UInt8.ofNat (hiN k a+t)]:=by
   rw[hL2.out,hL1.out,List.nil_append]
   congr 3
  have hlen:L2.length+3≤b.length+4:=by rw[e];simp
  have HE:Hid (L2++Zj 3 (n-t)=b++Z7 k a n):=by
   show _=_
   rw[e,zll (by rw[HT.out];exact hs),HT.out]
   simp
  have hr2:n-t<128 ^ (3+1):=by simp;omega
  clear e hb1 ho1 hL1 hL2 hb2 hmk hnot hone hor hmin hd
  go_loopw [9,11] (λv r wr=>∃(A':Option Addr) (c':Nat) (L:List UInt8) (f r':Nat),v=.slice A' L.length c'∧r=.int .u32 r'∧OwB wr w.heap.size 5 (.slice A' L.length c') L∧Below w.heap.size w wr∧f≤3∧Hid (r'<128 ^ (f+1))∧r'<4294967296∧Hid (L++Zj f r'=b++Z7 k a n)∧L.length+f≤b.length+4)
   (λ_ r _=>(intOf r).toNat)
  case atStart=>exact⟨A2,c2,L2,3,n-t,rfl,by go_num,ho2,hB2,Nat.le_refl _,hr2,by omega,HE,hlen⟩
  case round=>
   obtain⟨A',c',L,f,r',rfl,rfl,hoL,hBL,hf,hr',hr32,hE,hll⟩:=hrel
   have hz:=hBL.size
   by_cases hlast:r'<128
   ·have hd:decide ((127:Int)<r')=false:=by simp;omega
    have hw8:IntKind.u8.wrap (r':Int)=r':=by rw[IntKind.wrap_u8'];omega
    go_wp2_with (at_builtin;go_loud (refine yy rfl (.tmp 59) (.tmp 62) _ rfl w.heap.size 5 i0 Tryz.underlying22 hi0 hz0 hz1 hz2 _ L rfl (World.ownsRow.alloc hoL _) wr.heap.size _ _ rfl (Qk _ _ _ _) (by omega) (by omega) (by omega) (by simp;omega) ?_;intro A3 c3 L3 w3 hL3 ho3 hb3))
    go_ret
    have e:L3=b++Z7 k a n:=by rw[hL3.out,←hE.out,zku _ hlast];congr 3
    subst e
    exact⟨A3,c3,rfl,ho3,hBL.trans (((Below.refl _ _).alloc (by omega) _).trans hb3)⟩
   ·obtain⟨g,rfl⟩:∃g,f=g+1:=by
     cases f with
     |zero=>exact absurd hr'.out (by simpa using hlast)
     |succ g=>exact⟨g,rfl⟩
    have h27:(127:Int)<r':=by omega
    obtain⟨d,hd⟩:∃d,d=r'%128:=⟨_,rfl⟩
    obtain⟨q,hq⟩:∃q,q=r' / 128:=⟨_,rfl⟩
    have hd128:d<128:=by omega
    have hq128:q<r':=by omega
    have hand:bits .and .u32 (r':Int) 127=(d:Int):=by rw[hd];exact zpf hr32
    have hor:bits .or .u8 128 (d:Int)=((d+128:Nat):Int):=zzw hd128
    have hw8:IntKind.u8.wrap (d:Int)=d:=by rw[IntKind.wrap_u8'];omega
    have hsh:(r':Int) / 128=(q:Int):=by omega
    have Hd:=z2w hd
    have Hq:=z2w hq
    clear hd hq
    go_wp2_with (at_builtin;go_loud (refine yy rfl (.tmp 52) (.tmp 57) _ rfl w.heap.size 5 i0 Tryz.underlying22 hi0 hz0 hz1 hz2 _ L rfl (World.ownsRow.alloc hoL _) wr.heap.size _ _ rfl (Qk _ _ _ _) (by omega) (by omega) (by omega) (by simp;omega) ?_;intro A3 c3 L3 w3 hL3 ho3 hb3))
    go_roundw
    case rel=>
     have e:L3=L++[UInt8.ofNat (r'%128+128)]:=by rw[hL3.out,←Hd.out];congr 3
     refine⟨A3,c3,L3,g,q,rfl,by go_num,ho3,hBL.trans (((Below.refl _ _).alloc (by omega) _).trans hb3),by omega,?_,by omega,?_,by rw[e];simp;omega⟩
     ·show q<128 ^ (g+1)
      have h1:=hr'.out
      rw[Nat.pow_succ] at h1
      rw[Hq.out]
      omega
     ·show L3++Zj g q=_
      rw[←hE.out,zk5 _ hlast,e,Hq.out]
      simp
    case measure=>simp[intOf];omega
end
section
theorem vi(n:Nat)(hn:n<4294967296)(w:World):Calls Tryz.prog 86 #[.int .u32 (n:Int)] w λe w'=>e=.returned (.int .u32 ((min n 4096:Nat):Int))∧w=w':=by
 have h:min (n:Int) 4096=((min n 4096:Nat):Int):=by omega
 go_enter Tryz.func86,Tryz.ntmps86
 go_wp2_with fail
 go_ret
 exact⟨rfl,rfl⟩
theorem zu9{fn:Func}{p:Tmp}{t:TypeId}{F:Array Field}(h:fn.results=#[.cell p t])(ht:Tryz.prog.underlying t=some (.struct F))(tmps:Array Value)(w:World)(g:Nat)(cs:Array Value)(hp:tmps.getD p undef=.pointer (some ⟨g,0,none⟩))(hR:Row w g t cs)(hc:(Tryz.prog.info? t).map (·.size)=some cs.size) :
  (results fn tmps).run Tryz.prog w=.ok (.agg cs) w:=by
 have hl:=run_loadVar_row w g t t cs (0,0) _ hR ht rfl hc
 have hp':tmps[p]?.getD undef=.pointer (some ⟨g,0,none⟩):=by simpa using hp
 simp only[results,h]
 simp[hp',asAddr,hl]
theorem zk8:(Tryz.prog.info? 29).map (·.size)=some 2:=by kernel_rfl
theorem zar(cs:Array Value)(h:cs.size=2):(Tryz.prog.info? 29).map (·.size)=some cs.size:=by rw[h];exact zk8
theorem vu(n:Int)(w:World):Calls Tryz.prog 165 #[.int .u32 n] w λe w'=>e=.returned (.agg #[.int .u8 1,.int .u32 n])∧Below w.heap.size w w':=by
 go_enter Tryz.func165,Tryz.ntmps165
 go_wp2_with fail
 refine bodyPost_ret (zu9 rfl Tryz.underlying29 _ _ w.heap.size #[.int .u8 1,.int .u32 n] rfl ?_ (zar _ rfl)) rfl ⟨rfl,?_⟩
 ·exact Row.new w _ _
 ·exact(Below.refl _ _).alloc (Nat.le_refl _) _
def isKind(k:Nat):Prop:=k=128∨k=64∨k=32∨k=16∨k=0
theorem Vm{k:Nat}:4≤qy k∧qy k≤7:=by unfold qy;repeat (first|omega|split)
theorem zsk(W:World):Calls Tryz.prog 212 #[.int .u8 128] W λe w'=>e=.returned (.int .i64 8)∧W=w':=by
 go_enter Tryz.func212,Tryz.ntmps212
 go_wp2_with fail
 go_ret
 exact⟨by kernel_rfl,rfl⟩
theorem zvl(W:World):Calls Tryz.prog 212 #[.int .u8 64] W λe w'=>e=.returned (.int .i64 7)∧W=w':=by
 go_enter Tryz.func212,Tryz.ntmps212
 go_wp2_with fail
 go_ret
 exact⟨by kernel_rfl,rfl⟩
theorem zwt(W:World):Calls Tryz.prog 212 #[.int .u8 32] W λe w'=>e=.returned (.int .i64 6)∧W=w':=by
 go_enter Tryz.func212,Tryz.ntmps212
 go_wp2_with fail
 go_ret
 exact⟨by kernel_rfl,rfl⟩
theorem zvf(W:World):Calls Tryz.prog 212 #[.int .u8 16] W λe w'=>e=.returned (.int .i64 5)∧W=w':=by
 go_enter Tryz.func212,Tryz.ntmps212
 go_wp2_with fail
 go_ret
 exact⟨by kernel_rfl,rfl⟩
theorem zyo(W:World):Calls Tryz.prog 212 #[.int .u8 0] W λe w'=>e=.returned (.int .i64 0)∧W=w':=by
 go_enter Tryz.func212,Tryz.ntmps212
 go_wp2_with fail
 go_ret
 exact⟨by kernel_rfl,rfl⟩
theorem vz{k:Nat}(hk:isKind k)(w:World):Calls Tryz.prog 177 #[.int .u8 (k:Int)] w λe w'=>e=.returned (.int .i64 (qy k:Int))∧w=w':=by
 have key:∀{r:Int} (k:Int),(∀W,Calls Tryz.prog 212 #[.int .u8 k] W λe w'=>e=.returned (.int .i64 r)∧W=w')→-100≤r→r≤100→
   Calls Tryz.prog 177 #[.int .u8 k] w λe w'=>e=.returned (.int .i64 (max (r-1) 4))∧w=w':=by
  intro r k h h0 h1
  go_enter Tryz.func177,Tryz.ntmps177
  go_wp2_with fail
  refine(h _).mono ?_
  rintro e w1 ⟨rfl,rfl⟩
  go_wp2_with fail
  go_ret
  exact⟨rfl,rfl⟩
 rcases hk with rfl|rfl|rfl|rfl|rfl
 ·exact key 128 (r:=8) (λW=>zsk W) (by omega) (by omega)
 ·exact key 64 (r:=7) (λW=>zvl W) (by omega) (by omega)
 ·exact key 32 (r:=6) (λW=>zwt W) (by omega) (by omega)
 ·exact key 16 (r:=5) (λW=>zvf W) (by omega) (by omega)
 ·exact key 0 (r:=0) (λW=>zyo W) (by omega) (by omega)
theorem zgi:∀b:Fin 256,(bits .and .u8 (b.val:Int) 128≠0↔128≤b.val)∧(b.val<128→(bits .and .u8 (b.val:Int) 64≠0↔64≤b.val))∧(b.val<64→(bits .and .u8 (b.val:Int) 32≠0↔32≤b.val))∧(b.val<32→(bits .and .u8 (b.val:Int) 16≠0↔16≤b.val)):=by decide +kernel
theorem zk2(b:Nat)(hb:b<256)(w:World):Calls Tryz.prog 196 #[.int .u8 (b:Int)] w λe w'=>e=.returned (.int .u8 (xe b:Int))∧w=w':=by
 obtain⟨h1,h2,h3,h4⟩:=zgi ⟨b,hb⟩
 simp only at h1 h2 h3 h4
 obtain⟨K,hK⟩:∃K,K=xe b:=⟨_,rfl⟩
 have HK:Hid (K=xe b):=hK
 rw[←hK]
 clear hK
 go_enter Tryz.func196,Tryz.ntmps196
 go_wp2_with fail
 go_loopw [3] (λv wr=>∃k:Nat,(k=128∨k=64∨k=32∨k=16∨k=8)∧v=.int .u8 k∧b<2*k∧w=wr) (λv _=>(intOf v).toNat)
 case atStart=>exact⟨128,.inl rfl,rfl,by omega,rfl⟩
 case round=>
  obtain⟨k,hk,rfl,hbk,rfl⟩:=hrel
  rcases hk with rfl|rfl|rfl|rfl|rfl
  ·by_cases hb1:128≤b
   ·have hne:(bits .and .u8 (b:Int) 128 == 0)=false:=by rw[beq_eq_false_iff_ne];exact h1.2 hb1
    have hKv:K=128:=by rw[HK.out];unfold xe;repeat (first|omega|split)
    subst hKv
    clear h1 h2 h3 h4
    go_wp2_with fail
    go_ret
    exact⟨rfl,rfl⟩
   ·have heq:(bits .and .u8 (b:Int) 128)=0:=Classical.byContradiction λh=>hb1 (h1.1 h)
    clear h1 h2 h3 h4
    go_wp2_with fail
    go_roundw
    case rel=>exact⟨64,.inr (.inl rfl),by go_num,by omega,by first|trivial|rfl⟩
    case measure=>simp[intOf]
  ·by_cases hb1:64≤b
   ·have hne:(bits .and .u8 (b:Int) 64 == 0)=false:=by rw[beq_eq_false_iff_ne];exact(h2 (by omega)).2 hb1
    have hKv:K=64:=by rw[HK.out];unfold xe;repeat (first|omega|split)
    subst hKv
    clear h1 h2 h3 h4
    go_wp2_with fail
    go_ret
    exact⟨rfl,rfl⟩
   ·have heq:(bits .and .u8 (b:Int) 64)=0:=Classical.byContradiction λh=>hb1 ((h2 (by omega)).1 h)
    clear h1 h2 h3 h4
    go_wp2_with fail
    go_roundw
    case rel=>exact⟨32,.inr (.inr (.inl rfl)),by go_num,by omega,by first|trivial|rfl⟩
    case measure=>simp[intOf]
  ·by_cases hb1:32≤b
   ·have hne:(bits .and .u8 (b:Int) 32 == 0)=false:=by rw[beq_eq_false_iff_ne];exact(h3 (by omega)).2 hb1
    have hKv:K=32:=by rw[HK.out];unfold xe;repeat (first|omega|split)
    subst hKv
    clear h1 h2 h3 h4
    go_wp2_with fail
    go_ret
    exact⟨rfl,rfl⟩
   ·have heq:(bits .and .u8 (b:Int) 32)=0:=Classical.byContradiction λh=>hb1 ((h3 (by omega)).1 h)
    clear h1 h2 h3 h4
    go_wp2_with fail
    go_roundw
    case rel=>exact⟨16,.inr (.inr (.inr (.inl rfl))),by go_num,by omega,by first|trivial|rfl⟩
    case measure=>simp[intOf]
  ·by_cases hb1:16≤b
   ·have hne:(bits .and .u8 (b:Int) 16 == 0)=false:=by rw[beq_eq_false_iff_ne];exact(h4 (by omega)).2 hb1
    have hKv:K=16:=by rw[HK.out];unfold xe;repeat (first|omega|split)
    subst hKv
    clear h1 h2 h3 h4
    go_wp2_with fail
    go_ret
    exact⟨rfl,rfl⟩
   ·have heq:(bits .and .u8 (b:Int) 16)=0:=Classical.byContradiction λh=>hb1 ((h4 (by omega)).1 h)
    clear h1 h2 h3 h4
    go_wp2_with fail
    go_roundw
    case rel=>exact⟨8,.inr (.inr (.inr (.inr rfl))),by go_num,by omega,by first|trivial|rfl⟩
    case measure=>simp[intOf]
  ·have hKv:K=0:=by rw[HK.out];unfold xe;repeat (first|omega|split)
   subst hKv
   clear h1 h2 h3 h4
   go_wp2_with fail
   go_ret
   exact⟨rfl,rfl⟩
end
section
def named(a b:List UInt8)(R:List Fd)(k:Nat):Nat:=if j9 a b≠0 then j9 a b else if first (Zh a R) k≠0 then 61+first (Zh a R) k else 0
theorem zlu{a b:List UInt8}{R:List Fd}:named a b R 0=j9 a b:=by unfold named;rw[zct];simp;intro h;exact h.symm
theorem zkr{a b:List UInt8}{R:List Fd}{k:Nat}(h:named a b R k≠0):named a b R (k+1)=named a b R k:=by
 unfold named at *
 by_cases h1:j9 a b≠0
 ·rw[if_pos h1,if_pos h1]
 ·rw[if_neg h1] at h ⊢
  rw[if_neg h1]
  by_cases h2:first (Zh a R) k≠0
  ·rw[zcu h2]
  ·rw[if_neg h2] at h;exact absurd rfl h
theorem zla{a b:List UInt8}{R:List Fd}{k:Nat}(h:Zh a R k=false):named a b R (k+1)=named a b R k:=by unfold named;rw[Z2 h]
theorem zoa{a b:List UInt8}{R:List Fd}{k:Nat}(h:named a b R k=0)(h1:Zh a R k=true):named a b R (k+1)=62+k:=by
 unfold named at *
 by_cases h2:j9 a b≠0
 ·rw[if_pos h2] at h;omega
 ·rw[if_neg h2] at h ⊢
  by_cases h3:first (Zh a R) k≠0
  ·rw[if_pos h3] at h;omega
  ·rw[Xx (by omega) h1,if_pos (by omega)];omega
theorem zse{a b:List UInt8}{R:List Fd}{k:Nat}:named a b R k≤61+k:=by
 have h1:j9 a b≤61:=by
  unfold j9
  have:=Qh (p:=isB a b) 61
  have:=Qh (p:=isN a) 61
  split<;>omega
 have h2:=Qh (p:=Zh a R) k
 unfold named
 split
 ·omega
 ·split<;>omega
theorem zuh{x y:Int}{b:Bool}(h:x=y):Ending.returned (.tuple #[.int .i64 x,.bool b])=.returned (.tuple #[.int .i64 y,.bool b]):=by rw[h]
attribute [local irreducible] tot shr sz first j9 Qm isN isB nmL vlL tab named Qp Jn Zg Zh
theorem zou{base g most:Nat}{v:Value}{L:List Fd}{w:World}(a b:List UInt8)(h:Tb w base g v L most)(hL:L.length≤2147483648) :
  Calls Tryz.prog 144 #[pt g,tx a,tx b] w λe w'=>e=.returned (.tuple #[.int .i64 (Qp a b L.reverse:Int),.bool (Jn a b L.reverse)])∧Below w.heap.size w w':=by
 obtain⟨A,c,rfl,hc1,hc2⟩:=h.shape
 have hf:=zrh a b
 unfold pt tx at *
 cases hB:Qm a b with
 |true=>
  have hk:=zpp (R:=L.reverse) hB
  rw[hB] at hf
  rw[hk.1,hk.2]
  clear hk hB
  generalize j9 a b=n at hf ⊢
  go_enter Tryz.func144,Tryz.ntmps144
  go_wp2_with fail
  refine(hf _).mono ?_
  rintro e w1 ⟨rfl,hb1⟩
  go_wp2_with fail
  go_ret2
  exact⟨rfl,hb1⟩
 |false=>
  rw[hB] at hf
  have HB:=z2w hB
  have H0:Hid (j9 a b=named a b L.reverse 0):=by show _=_;exact zlu.symm
  clear hB
  have hle:=zse (a:=a) (b:=b) (R:=L.reverse) (k:=0)
  rw[H0.out] at hf
  have H:=z2w h
  clear h H0
  go_enter Tryz.func144,Tryz.ntmps144
  go_wp2_with fail
  refine(hf _).mono ?_
  rintro e w1 ⟨rfl,hb1⟩
  have HB1:=z2w hb1
  clear hb1 hf
  go_wp2_with fail
  go_loopw [8,10] (λnd ag wr=>∃(n k:Nat),k≤L.length∧ag=.int .i64 ((k:Int)+1)∧nd=.int .i64 n∧n≤61+k∧Hid (n=named a b L.reverse k)∧Hid (first (Zg a b L.reverse) k=0)∧Hid (Below w.heap.size w wr))
   (λ_ ag _=>L.length+1-(intOf ag).toNat)
  case atStart=>exact⟨_,0,Nat.zero_le _,rfl,rfl,by omega,rfl,zct,HB1⟩
  case round=>
   clear HB1 hle
   obtain⟨n,k,hk,rfl,rfl,hn,hN,hM,hW⟩:=hrel
   have hT:Tb wr base g (.slice A L.length c) L most:=H.out.below hW.out
   have hln:=Yx hT.own
   unfold pt at hln
   by_cases hlt:k<L.length
   ·obtain⟨j,hj⟩:∃j,j=L.length-1-k:=⟨_,rfl⟩
    have hjl:j<L.length:=by omega
    have hRl:k<L.reverse.length:=by simpa using hlt
    have hLj:L.reverse[k]=L[j]:=by rw[List.getElem_reverse];simp[hj]
    obtain⟨bk,q,hA,hbg,f0,f1,f2⟩:=hT.field hjl
    subst hA
    have c0:=hT.own.c0
    have hge:decide ((k:Int)+1≤(L.length:Int))=true:=by simp;omega
    have hsub:(L.length:Int)-((k:Int)+1)=(j:Int):=by omega
    have hwr:IntKind.i64.wrap (j:Int)=(j:Int):=IntWalk.i64_in _ (by omega)
    have hj0:(0:Int)≤(j:Int):=by omega
    have hj1:(j:Int)<(L.length:Int):=by omega
    have g1:wr.heap.size≠g:=by have:=hT.lt;omega
    have g2:wr.heap.size≠bk:=by have:=World.block_lt_of_cell? _ _ f0;simp at this;omega
    have hNT:=zuu (a:=a) hRl
    have hBT:=zxk (a:=a) (b:=b) hRl
    rw[hLj] at hNT hBT
    unfold tx at f0 f1
    generalize L[j].nm=x at f0 hNT hBT
    generalize L[j].vl=y at f1 hBT
    generalize L[j].nv=z at f2
    have HNT:=z2w hNT
    have HBT:=z2w hBT
    have HS:Hid (w.heap.size≤wr.heap.size):=hW.out.size
    clear hNT hBT hLj hj hT
    go_wp2_with fail
    refine hln.mono ?_
    rintro e w2 ⟨rfl,hw2⟩
    subst hw2
    clear hln
    go_wp2_with fail
    go_region_held3 (λw'=>w'.cell? ⟨g,0,none⟩=some (.slice (some ⟨bk,q,none⟩) L.length c)∧w'.cell? ⟨bk,q+j*3,none⟩=some (.string ⟨x.toArray⟩)∧w'.cell? ⟨bk,q+j*3+1,none⟩=some (.string ⟨y.toArray⟩)∧w'.cell? ⟨bk,q+j*3+2,none⟩=some (.bool z)) (go_keep)
     (first|(go_at_call 179;refine(zml (A:=some ⟨bk,q,none⟩) (n:=L.length) (c:=c) (by(try dsimp only at *);go_split_ands;assumption)).mono ?_;rintro e w' ⟨rfl,rfl⟩))
    all_goals
     have HW3:Hid (Below w.heap.size w (w2.alloc (.cells #[.string ⟨x.toArray⟩,.string ⟨y.toArray⟩,.bool z] 57)).drew):=(hW.out.alloc HS.out _).drew
     have hR3:Row (w2.alloc (.cells #[.string ⟨x.toArray⟩,.string ⟨y.toArray⟩,.bool z] 57)).drew w2.heap.size 57 #[.string ⟨x.toArray⟩,.string ⟨y.toArray⟩,.bool z]:=Row.new w2 _ _
     have q0:=hR3.cell (j:=0) rfl
     have q1:=hR3.cell (j:=1) rfl
     generalize (w2.alloc (.cells #[.string ⟨x.toArray⟩,.string ⟨y.toArray⟩,.bool z] 57)).drew=w3 at *
     have hln2:=Yn w3
     clear hR3 hW g1 g2 c0 f0 f1 f2
     by_cases hx:x=a
     ·have e1:(x == a)=true:=by rw[hx,beq_self_eq_true]
      by_cases hy:y=b
      ·have e2:(y == b)=true:=by rw[hy,beq_self_eq_true]
       have hb:Zg a b L.reverse k=true:=by rw[HBT.out,hx,hy];simp
       have hR:=zv3 HB.out hRl hM.out hb
       have HR:=z2w hR
       clear hx hy hb hR hM hN
       go_wp2_with fail
       refine hln2.mono ?_
       rintro e w4 ⟨rfl,hw4⟩
       subst hw4
       clear hln2
       go_wp2_with fail
       go_ret2
       refine⟨?_,HW3.out⟩
       rw[HR.out.1,HR.out.2]
       exact zuh (by omega)
      ·have e2:(y == b)=false:=by rw[beq_eq_false_iff_ne];exact hy
       have hM2:Hid (first (Zg a b L.reverse) (k+1)=0):=by
        show _=_
        rw[Z2 (by rw[HBT.out];simp[hy])]
        exact hM.out
       have hnt:Zh a L.reverse k=true:=by rw[HNT.out];simp[hx]
       by_cases hn0:n=0
       ·have hN2:Hid (62+k=named a b L.reverse (k+1)):=by
         show _=_
         rw[zoa (by rw[←hN.out];exact hn0) hnt]
        clear hx hy hnt hM hN
        subst hn0
        go_wp2_with fail
        refine hln2.mono ?_
        rintro e w4 ⟨rfl,hw4⟩
        subst hw4
        clear hln2
        go_wp2_with fail
        go_roundw
        case rel=>exact⟨62+k,k+1,by omega,by go_num,by(congr 1;omega),by omega,hN2,hM2,HW3⟩
        case measure=>simp[intOf];omega
       ·have hN2:Hid (n=named a b L.reverse (k+1)):=by
         show _=_
         rw[zkr (by rw[←hN.out];exact hn0)]
         exact hN.out
        have e3:((n:Int) == 0)=false:=by rw[beq_eq_false_iff_ne];omega
        clear hx hy hnt hM hN
        go_wp2_with fail
        refine hln2.mono ?_
        rintro e w4 ⟨rfl,hw4⟩
        subst hw4
        clear hln2
        go_wp2_with fail
        go_roundw
        case rel=>exact⟨n,k+1,by omega,by go_num,rfl,by omega,hN2,hM2,HW3⟩
        case measure=>simp[intOf];omega
     ·have e1:(x == a)=false:=by rw[beq_eq_false_iff_ne];exact hx
      have hM2:Hid (first (Zg a b L.reverse) (k+1)=0):=by
       show _=_
       rw[Z2 (by rw[HBT.out];simp[hx])]
       exact hM.out
      have hN2:Hid (n=named a b L.reverse (k+1)):=by
       show _=_
       rw[zla (by rw[HNT.out];simp[hx])]
       exact hN.out
      clear hx hM hN hln2
      go_wp2_with fail
      go_roundw
      case rel=>exact⟨n,k+1,by omega,by go_num,rfl,by omega,hN2,hM2,HW3⟩
      case measure=>simp[intOf];omega
   ·have hM2:Hid (first (Zg a b L.reverse) L.reverse.length=0):=by
     show _=_
     rw[List.length_reverse,show L.length=k by omega]
     exact hM.out
    have hR:=zoy (R:=L.reverse) HB.out hM2.out
    have hN2:Hid (n=Qp a b L.reverse∧Jn a b L.reverse=false):=by
     show _∧_
     refine⟨?_,hR.2⟩
     rw[hR.1,hN.out,List.length_reverse,show k=L.length by omega]
     unfold named
     rfl
    clear hR hM2 hN hM
    have hge:decide ((k:Int)+1≤(L.length:Int))=false:=by simp;omega
    go_wp2_with fail
    refine hln.mono ?_
    rintro e w2 ⟨rfl,rfl⟩
    go_wp2_with fail
    go_ret2
    refine⟨?_,hW.out⟩
    rw[←hN2.out.1,hN2.out.2]
    rfl
end
section
def vy(w:World)(base:Nat)(v:Value)(l:List UInt8)(e:Ending)(w':World):Prop:=∃v',e=.returned v'∧Bo w' base 5 v' l∧Fs (ob v) w w'∧Nx w v v'
theorem isKind.lt{k:Nat}(h:isKind k):k<256:=by unfold isKind at h;omega
theorem y9{k n base:Nat}{v:Value}{l:List UInt8}{w:World}(hk:isKind k)(hn:n≤268435456)(hO:Bo w base 5 v l)(hbase:base≤w.heap.size)(hl:l.length≤549755813888) :
  Calls Tryz.prog 143 #[v,.int .u8 (k:Int),.int .i64 (n:Int)] w (vy w base v (l++Ja k n)):=by
 obtain⟨i0,hi0,hz0,hz1,hz2⟩:=jw yp
 have hpx:=vz hk
 have hbd:=@Vm k
 have hput:=λW=>zjo (qy k) k n (by omega) (by omega) hk.lt hn none 0 [] (by simp) W RdB.nil
 have hnl:=Jm k n
 unfold Ja at hnl ⊢
 rw[List.nil_append] at hput
 generalize Z7 (qy k) k n=L at *
 generalize qy k=p at *
 go_enter Tryz.func143,Tryz.ntmps143
 go_wp2_with fail
 refine(hpx _).mono ?_
 rintro e w1 ⟨rfl,rfl⟩
 go_wp2_with fail
 refine(hput _).mono ?_
 rintro e w1 ⟨A,c,rfl,hO1,hB1⟩
 obtain⟨_,_,e1,_,_,hr⟩:=hO1.shape
 injection e1 with e1 e2 e3
 subst e1 e3
 have hO2:=hO.below hB1
 have hs:=hB1.size
 go_wp2_with (at_builtin;go_loud (refine qx rfl (.tmp 7) (.tmp 13) 22 rfl base 5 i0 Tryz.underlying22 hi0 hz0 hz1 hz2 v l rfl hO2 _ A L _ _ rfl rfl hr (by omega) (by omega) ?_;intro v2 w2 h1 h2 h3))
 go_ret
 exact⟨v2,rfl,h1,(Fs.of_below hB1).trans h2 λ_ _ h=>h,(Nx.refl w v).trans h3 hs⟩
theorem zam{base:Nat}{v:Value}{l s:List UInt8}{w:World}(hs:s.length≤9000)(hO:Bo w base 5 v l)(hbase:base≤w.heap.size)(hl:l.length≤549755813888) :
  Calls Tryz.prog 181 #[v,tx s] w (vy w base v (l++Qi s)):=by
 obtain⟨i0,hi0,hz0,hz1,hz2⟩:=jw yp
 have hssz:=zgv s
 have hsz:=λW=>zff ⟨s.toArray⟩ (by rw[hssz];omega) W
 have henc:=λW=>zwl ⟨s.toArray⟩ (by rw[hssz];omega) W
 have hel:=zbq s
 have hput:=λ(a n:Nat) (ha:a<256) (hn:n≤268435456) W=>zjo 7 a n (by omega) (by omega) ha hn none 0 [] (by simp) W RdB.nil
 simp only[List.nil_append,List.toList_toArray] at hsz henc hput
 unfold Qi
 unfold zhp at *
 generalize (j8 s+7) / 8=N at *
 generalize ve s=E at *
 unfold tx
 by_cases hlt:N<s.length
 ·rw[if_pos hlt]
  have hpl:=(Xg 7 128 N).2
  have hput1:=hput 128 N (by omega) (by omega)
  generalize Z7 7 128 N=L at *
  have hlt2:(N:Int)<(s.length:Int):=by omega
  clear hput
  go_enter Tryz.func181,Tryz.ntmps181
  go_wp2_with fail
  refine(hsz _).mono ?_
  rintro e w1 ⟨rfl,hB1⟩
  have hO1:=hO.below hB1
  have HF1:=z2w (Fs.of_below (S:=ob v) hB1)
  clear hsz hO hB1
  go_wp2_with fail
  refine(hput1 _).mono ?_
  rintro e w2 ⟨A,c,rfl,hO2,hB2⟩
  obtain⟨_,_,e1,_,_,hr⟩:=hO2.shape
  injection e1 with e1 e2 e3
  subst e1 e3
  have hO3:=hO1.below hB2
  have HF2:=z2w (HF1.out.then_below hB2)
  have hb2:base≤w2.heap.size:=by have:=HF2.out.size;omega
  clear HF1 hB2 hO1 hput1
  go_wp2_with (at_builtin;go_loud (refine qx rfl (.tmp 12) (.tmp 15) 22 rfl base 5 i0 Tryz.underlying22 hi0 hz0 hz1 hz2 v l rfl hO3 _ A L _ _ rfl rfl hr (by omega) hb2 ?_;intro v2 w3 h1 h2 h3))
  have HF3:=z2w (HF2.out.trans h2 λ_ _ h=>h)
  have HN3:=z2w ((Nx.refl w v).trans h3 HF2.out.size)
  clear h2 h3 HF2 hO3 hr hO2
  refine(henc _).mono ?_
  rintro e w4 ⟨A4,c4,rfl,hO4,hB4⟩
  obtain⟨_,_,e1,_,_,hr4⟩:=hO4.shape
  injection e1 with e1 e2 e3
  subst e1 e3
  have hO5:=Bo.below h1 hB4
  have HF4:=z2w (HF3.out.then_below hB4)
  have hb4:base≤w4.heap.size:=by have:=HF4.out.size;omega
  have hs3:w.heap.size≤w3.heap.size:=HF3.out.size
  have hs4:w3.heap.size≤w4.heap.size:=hB4.size
  clear hB4 h1 hO4
  go_wp2_with (at_builtin;go_loud (refine qx rfl (.tmp 17) (.tmp 19) 22 rfl base 5 i0 Tryz.underlying22 hi0 hz0 hz1 hz2 v2 (l++L) rfl hO5 _ A4 E _ _ rfl hel.symm hr4 (by rw[List.length_append];omega) hb4 ?_;intro v5 w5 h1 h2 h3))
  go_ret
  rw[List.append_assoc] at h1
  exact⟨v5,rfl,h1,HF4.out.next HN3.out h2,HN3.out.trans ((Nx.refl w3 v2).trans h3 hs4) hs3⟩
 ·rw[if_neg hlt]
  have hpl:=(Xg 7 0 s.length).2
  have hput1:=hput 0 s.length (by omega) (by omega)
  generalize Z7 7 0 s.length=L at *
  have hlt2:decide ((N:Int)<(s.length:Int))=false:=by simp;omega
  clear hput henc
  go_enter Tryz.func181,Tryz.ntmps181
  go_wp2_with fail
  refine(hsz _).mono ?_
  rintro e w1 ⟨rfl,hB1⟩
  have hO1:=hO.below hB1
  have HF1:=z2w (Fs.of_below (S:=ob v) hB1)
  clear hsz hO hB1
  go_wp2_with fail
  refine(hput1 _).mono ?_
  rintro e w2 ⟨A,c,rfl,hO2,hB2⟩
  obtain⟨_,_,e1,_,_,hr⟩:=hO2.shape
  injection e1 with e1 e2 e3
  subst e1 e3
  have hO3:=hO1.below hB2
  have HF2:=z2w (HF1.out.then_below hB2)
  have hb2:base≤w2.heap.size:=by have:=HF2.out.size;omega
  clear HF1 hB2 hO1 hput1
  go_wp2_with (first
   |(at_builtin;refine qx rfl (.tmp 21) (.tmp 25) 22 rfl base 5 i0 Tryz.underlying22 hi0 hz0 hz1 hz2 v l rfl hO3 _ A L _ _ rfl rfl hr (by omega) hb2 ?_;intro v2 w3 h1 h2 h3;have HF3:=z2w (HF2.out.trans h2 λ_ _ h=>h);have HN3:=z2w ((Nx.refl w v).trans h3 HF2.out.size);have hb3:base≤w3.heap.size:=(by have:=HF3.out.size;omega);clear h2 h3 HF2 hO3 hr hO2)
   |(at_builtin;go_loud (refine zfn rfl (.tmp 27) (.tmp 28) 22 9 rfl base 5 i0 Tryz.underlying22 Tryz.underlying9 hi0 hz0 hz1 hz2 v2 (l++L) rfl h1 s rfl (by rw[List.length_append];omega) hb3 ?_;intro v5 w5 h4 h5 h6)))
  go_ret
  rw[List.append_assoc] at h4
  exact⟨v5,rfl,h4,HF3.out.next HN3.out h5,HN3.out.trans h6 HF3.out.size⟩
end
section
theorem zzu{k1 k2 k3:IntKind}{a b c a' b' c':Int}(h1:a=a')(h2:b=b')(h3:c=c'):Ending.returned (.tuple #[.int k1 a,.int k2 b,.int k3 c])=.returned (.tuple #[.int k1 a',.int k2 b',.int k3 c']):=by rw[h1,h2,h3]
theorem Vb(j:Nat):128 ^ j=2 ^ (7*j):=by rw[Nat.pow_mul]
theorem znm{n j:Nat}(hn:n<256)(hj:j≤3):bits .and .u8 (n:Int) 127%4294967296*2 ^ (7*j)%4294967296=((n%128*128 ^ j:Nat):Int):=by
 rw[zw7 hn]
 have hk:j=0∨j=1∨j=2∨j=3:=by omega
 rcases hk with rfl|rfl|rfl|rfl<;>simp<;>omega
theorem zf6{n j:Nat}(hj:j≤3):n%128*128 ^ j<128 ^ (j+1)∧128 ^ (j+1)≤268435456:=by
 have hk:j=0∨j=1∨j=2∨j=3:=by omega
 rcases hk with rfl|rfl|rfl|rfl<;>simp<;>omega
theorem zei{r n j:Nat}(hr:r<128 ^ j)(hj:j≤3):r+n%128*128 ^ j<128 ^ (j+1):=by
 have hk:j=0∨j=1∨j=2∨j=3:=by omega
 rcases hk with rfl|rfl|rfl|rfl<;>simp at hr ⊢<;>omega
theorem zs3(A:Option Addr)(c:Nat)(l:List UInt8)(hl:l.length≤65536)(w:World)(B:Nat)(hr:RdB w B A l) :
  Calls Tryz.prog 234 #[.slice A l.length c] w λe w'=>e=.returned (.tuple #[.int .u32 ((qs 0 0 l).1:Int),.int .i64 ((qs 0 0 l).2.1:Int),.int .i64 ((qs 0 0 l).2.2:Int)])∧w=w':=by
 generalize hG:qs 0 0 l=G
 obtain⟨x,y,z⟩:=G
 have HG:=z2w hG
 clear hG
 go_enter Tryz.func234,Tryz.ntmps234
 go_wp2
 go_loop [5,10] (λr i=>∃j r':Nat,j≤l.length∧j≤4∧i=.int .i64 j∧r=.int .u32 r'∧Hid (r'<128 ^ j)∧Hid (qs j r' (l.drop j)=(x,y,z))) (λ_ i=>l.length-(intOf i).toNat)
 case atStart=>exact⟨0,0,Nat.zero_le _,Nat.zero_le _,rfl,rfl,by show _<_;decide,by simpa using HG⟩
 case round=>
  obtain⟨j,r',hj,hj4,rfl,rfl,hr',hE⟩:=hrel
  by_cases hlt:j<l.length
  ·obtain⟨g,o,rfl,_,hc⟩:=hr (by rintro rfl;simp at hlt)
   have hcell:=hc j hlt
   have hE':Hid (qs j r' (l[j] :: l.drop (j+1))=(x,y,z)):=by rw[←List.drop_eq_getElem_cons hlt];exact hE
   generalize l[j]=b at hcell hE'
   have hb:=b.toNat_lt
   clear hE hc hr
   by_cases h4:j=4
   ·subst h4
    obtain⟨rfl,rfl,rfl⟩:x=0∧y=0∧z=4:=by
     have:=hE'.out
     rw[zfa] at this
     simp only[Prod.mk.injEq] at this
     omega
    clear hE'
    go_wp2
    go_ret3
    exact⟨rfl,rfl⟩
   ·have hj3:j≤3:=by omega
    have h4b:((j:Int) == 4)=false:=by rw[beq_eq_false_iff_ne];omega
    have hbd:=zf6 (n:=b.toNat) hj3
    have hsum:=zei (n:=b.toNat) hr'.out hj3
    have hrl:r'<128 ^ j:=hr'.out
    have hle:128 ^ j≤128 ^ (j+1):=Nat.pow_le_pow_right (by omega) (by omega)
    have hdig:=znm (n:=b.toNat) (by omega) hj3
    obtain⟨D,hD⟩:∃D,D=b.toNat%128*128 ^ j:=⟨_,rfl⟩
    have hor:bits .or .u32 (r':Int) (D:Int)=((r'+D:Nat):Int):=by
     rw[hD,Vb]
     exact z1u (by rw[←Vb];exact hrl) (by rw[←Vb];omega) (by omega)
    rw[←hD] at hbd hsum hdig
    have hS:Hid (r'+D<128 ^ (j+1)):=hsum
    have hS32:r'+D<268435456:=by omega
    have HD:=z2w hD
    clear hD hbd hsum hrl hle
    by_cases hlast:b.toNat<128
    ·have hz:=zkv hlast
     obtain⟨rfl,rfl,rfl⟩:x=r'+D∧y=j+1∧z=0:=by
      have:=hE'.out
      rw[zeo h4 _ hlast,←HD.out] at this
      simp only[Prod.mk.injEq] at this
      omega
     clear hE'
     go_wp2
     go_ret3
     exact⟨zzu (by omega) (by omega) rfl,rfl⟩
    ·have hz:=zix hlast (by omega)
     have hE2:Hid (qs (j+1) (r'+D) (l.drop (j+1))=(x,y,z)):=by
      have:=hE'.out
      rw[ze5 h4 _ hlast,←HD.out] at this
      exact this
     clear hE' hr'
     go_wp2
     go_round
     case rel=>exact⟨j+1,r'+D,by omega,by omega,by go_num,by go_num,hS,hE2⟩
     case measure=>simp[intOf];omega
  ·obtain rfl:j=l.length:=by omega
   obtain⟨rfl,rfl,rfl⟩:x=0∧y=0∧z=2:=by
    have:=hE.out
    rw[List.drop_length,qs] at this
    simp only[Prod.mk.injEq] at this
    omega
   clear hE hr'
   go_wp2
   go_ret3
   exact⟨rfl,rfl⟩
end
end Go.Proofs.YtooaajnkiokpnaaGreatDoor
