/-
  Part of a proof: A fault by value: its cells, faults held against others. What the document's tables of streams say, as functions of numbers. No conditions. Conditions: those that each theorem names.
-/
import Derived.Test.YtooaajnkiokpnaaGreatDoorQ04
import Derived.Test.YtooaajnkiokpnaaGreatDoorQ07
import Derived.Test.YtooaajnkiokpnaaGreatDoorQ02
import Derived.Test.YtooaajnkiokpnaaGreatDoorQ06
import Derived.Deep.CutBlock
import Derived.Deep.DeepCutAuto
import Derived.Test.YtooaajnkiokpnaaGreatDoorQ01
import Derived.Deep.RegionHeld3
import Derived.IntWalk
import Derived.Test.YtooaajnkiokpnaaGreatDoorQ14
import Derived.Test.YtooaajnkiokpnaaGreatDoorQ05
import Derived.Lib.SmallJoins
import Derived.Test.YtooaajnkiokpnaaGreatDoorProg
import Derived.Laws.StructEq
import Derived.ChangeKeysEq
namespace Go.Proofs.YtooaajnkiokpnaaGreatDoor
open Go.RowKit Go.WideShapes
set_option maxHeartbeats 4000000
set_option maxRecDepth 100000
section
def whc(st:Nat)(A:Option Addr)(n c:Nat)(en:Bool):Array Value:=#[.int .u32 st,.slice A n c,.bool en]
def erv:Option Nat→Value
 |none=>.nilIface
 |some p=>.iface 172 (.pointer (some ⟨p,0,none⟩))
def gac(st:Nat)(A:Option Addr)(n c:Nat)(en busy:Bool)(more:Nat)(o:Option Nat):Array Value:=#[.int .u32 st,.slice A n c,.bool en,.bool busy,.int .i64 more,erv o]
theorem j4(st:Nat)(A:Option Addr)(n c:Nat)(en:Bool)(st':Nat)(A':Option Addr)(n' c':Nat)(en':Bool):(whc st A n c en).size=(whc st' A' n' c' en').size:=rfl
theorem zwd:(Tryz.prog.info? 128).map (·.size)=some 3:=by kernel_rfl
theorem zwn:(Tryz.prog.info? 147).map (·.size)=some 6:=by kernel_rfl
theorem qd(st:Nat)(A:Option Addr)(n c:Nat)(en:Bool):AgOk Tryz.prog 128 (whc st A n c en):=⟨⟨_,Tryz.underlying128⟩,zwd,by unfold whc;kernel_rfl⟩
theorem ztp(st:Nat)(A:Option Addr)(n c:Nat)(en busy:Bool)(more:Nat)(o:Option Nat):AgOk Tryz.prog 147 (gac st A n c en busy more o):=⟨⟨_,Tryz.underlying147⟩,zwn,by unfold gac erv;cases o<;>kernel_rfl⟩
theorem zlr(x:Fm):AgOk Tryz.prog 66 x.c:=⟨⟨_,Tryz.underlying66⟩,Fm.size x,by unfold Fm.c;kernel_rfl⟩
theorem zgz:(Tryz.prog.info? 5).map (λi=>(i.zero,i.size,i.bytes))=some (some (.int .u8 0),1,1):=by kernel_rfl
theorem Ye{P:Program}{t:TypeId}{z:Value}{n b:Nat}(h:(P.info? t).map (λi=>(i.zero,i.size,i.bytes))=some (some z,n,b)):∃i,P.info? t=some i∧i.zero=some z∧i.size=n∧i.bytes=b:=by
 cases hi:P.info? t with
 |none=>rw[hi] at h;simp at h
 |some i=>rw[hi] at h;simp at h;exact⟨i,rfl,h.1,h.2.1,h.2.2⟩
theorem Row.ne{w:World}{a b:Nat}{t u:TypeId}{cs ds:Array Value}(h:Row w a t cs)(h':Row w b u ds)(ht:t≠u):a≠b:=λe=>by
 subst e
 have h1:w.heap[a]?=some (.cells cs t):=h
 have h2:w.heap[a]?=some (.cells ds u):=h'
 rw[h1] at h2
 injection h2 with h2
 injection h2 with h2 h3
 exact ht h3
theorem Bo.ne{w:World}{base:Nat}{e:TypeId}{v:Value}{l:List UInt8}(h:Bo w base e v l){k:Nat}{t:TypeId}{cs:Array Value}(hr:Row w k t cs)(ht:t≠e):¬ob v k:=λhk=>by
 rcases h.2 with ⟨rfl,_⟩|⟨g,o,cap,cur,rfl,_,hg,_⟩
 ·simp[ob,Value.ownBlock] at hk
 ·have:g=k:=by simpa [ob,Value.ownBlock] using hk
  subst this
  have h1:w.heap[g]?=some (.cells cs t):=hr
  rw[hg] at h1
  injection h1 with h1
  injection h1 with h1 h2
  exact ht h2.symm
structure Ga(w:World)(base g:Nat)(m:Gm)(A:Option Addr)(c:Nat)(o:Option Nat):Prop where
 row:Row w g 147 (gac m.st A m.blk.length c m.en m.busy m.more o)
 own:Bo w base 5 (.slice A m.blk.length c) m.blk
 idle:m.busy=false→A=none∧c=0
 err:(o=none∧m.bad=0)∨∃p,o=some p∧m.bad≠0∧Row w p 174 #[.int .u8 1,.int .u32 m.bad]
 ok:m.Ok
 lo:0<base∧base≤g
section
variable {w w':World}{base g:Nat}{m:Gm}{A:Option Addr}{c:Nat}{o:Option Nat}
theorem Ga.keep(h:Ga w base g m A c o)(h1:w'.heap[g]?=w.heap[g]?)(h2:∀k,ob (.slice A m.blk.length c) k→w'.heap[k]?=w.heap[k]?)(h3:∀p,o=some p→w'.heap[p]?=w.heap[p]?):Ga w' base g m A c o:=
 ⟨h1.trans h.row,OwS.keep h.own h2,h.idle,by
  rcases h.err with h0|⟨p,rfl,hb,hr⟩
  ·exact .inl h0
  ·exact .inr ⟨p,rfl,hb,(h3 p rfl).trans hr⟩,h.ok,h.lo⟩
theorem Ga.lts(h:Ga w base g m A c o):g<w.heap.size∧(∀k,ob (.slice A m.blk.length c) k→base≤k∧k<w.heap.size)∧∀p,o=some p→p<w.heap.size:=by
 refine⟨h.row.lt,λk hk=>OwS.lt h.own k hk,λp hp=>?_⟩
 rcases h.err with ⟨h0,_⟩|⟨p',h0,_,hr⟩
 ·rw[h0] at hp;cases hp
 ·rw[h0] at hp
  obtain rfl:=Option.some.inj hp
  exact hr.lt
theorem Ga.below(h:Ga w base g m A c o)(hb:Below w.heap.size w w'):Ga w' base g m A c o:=
 h.keep (hb.block g h.lts.1) (λk hk=>hb.block k (h.lts.2.1 k hk).2) (λp hp=>hb.block p (h.lts.2.2 p hp))
theorem Ga.idle_nil(h:Ga w base g m A c o)(hb:m.busy=false):A=none∧c=0∧m=gmF m.bad:=⟨(h.idle hb).1,(h.idle hb).2,h.ok.idle hb⟩
end
end
section
theorem zw9:#[Value.int .u32 0,.slice none 0 0,.bool false,.bool false,.int .i64 0,.nilIface]=gac 0 none 0 0 false false 0 none:=rfl
theorem zzt(w:World)(h:0<w.heap.size):Ga (w.alloc (.cells #[.int .u32 0,.slice none 0 0,.bool false,.bool false,.int .i64 0,.nilIface] 147)) w.heap.size w.heap.size gm0 none 0 none∧Below w.heap.size w (w.alloc (.cells #[.int .u32 0,.slice none 0 0,.bool false,.bool false,.int .i64 0,.nilIface] 147)):=
 ⟨⟨by rw[zw9];exact Row.new w _ _,Bo.nil,λ_=>⟨rfl,rfl⟩,.inl ⟨rfl,rfl⟩,zn7,h,Nat.le_refl _⟩,(Below.refl _ _).alloc (Nat.le_refl _) _⟩
theorem zg6{w:World}(hG:GlobE w):Calls Tryz.prog 50 #[] w λe w'=>e=.returned (.pointer (some ⟨w.heap.size,0,none⟩))∧Ga w' w.heap.size w.heap.size gm0 none 0 none∧Below w.heap.size w w':=by
 have h:=zzt w (jf hG)
 have HA:=z2w h.1
 have HB:=z2w h.2
 clear h hG
 go_enter Tryz.func50,Tryz.ntmps50
 go_wp2_with fail
 go_ret
 exact⟨rfl,HA.out,HB.out⟩
theorem Yt{w:World}{g:Nat}{A:Option Addr}{n c:Nat}(h:w.cell? ⟨g,1,none⟩=some (.slice A n c)):Calls Tryz.prog 195 #[.pointer (some ⟨g,0,none⟩)] w λe w'=>e=.returned (.int .i64 n)∧w'=w:=by
 go_enter Tryz.func195,Tryz.ntmps195
 go_wp2_with fail
 go_ret
 exact⟨rfl,rfl⟩
end
section
def gvS(g:Nat)(v:Value):Nat→Prop:=λk=>k=g∨ob v k
def TkPY(w:World)(base g:Nat)(v:Value)(r:Gm × Bool × Gm)(e:Ending)(w':World):Prop:=
 ∃(A':Option Addr) (c':Nat) (o:Option Nat),e=.returned (.tuple #[.agg (whc r.2.2.st A' r.2.2.blk.length c' r.2.2.en),.bool r.2.1,erv o])∧Fs (gvS g v) w w'∧
  Bo w' base 5 (.slice A' r.2.2.blk.length c') r.2.2.blk∧Nx w v (.slice A' r.2.2.blk.length c')∧(r.2.1=false→A'=none∧c'=0)∧
  ((r.1.bad=0∧o=none∧∃A2 c2,Ga w' base g r.1 A2 c2 none∧Nx w v (.slice A2 r.1.blk.length c2))∨
   (r.1.bad≠0∧r.1.Ok∧∃p old,o=some p∧Row w' p 174 #[.int .u8 1,.int .u32 r.1.bad]∧Row w' g 147 old∧old.size=6))
theorem Nx.none(w:World)(v:Value):Nx w v (.slice none 0 0):=.inr λk hk=>by simp[Value.ownBlock] at hk
section
variable {w w':World}{base g:Nat}{v:Value}
theorem TkPY.fail{c p:Nat}{old:Array Value}(hc:c≠0∧c≤11)(hf:Fs (gvS g v) w w')(hp:Row w' p 174 #[.int .u8 1,.int .u32 c])(hr:Row w' g 147 old)(ho:old.size=6) :
  TkPY w base g v (gmF c,false,gm0) (.returned (.tuple #[.agg (whc 0 none 0 0 false),.bool false,erv (some p)])) w':=
 ⟨none,0,some p,rfl,hf,Bo.nil,Nx.none w v,λ_=>⟨rfl,rfl⟩,.inr ⟨hc.1,zoo hc.2,p,old,rfl,hp,hr,ho⟩⟩
theorem TkPY.on{m:Gm}{A:Option Addr}{c:Nat}(hb:m.bad=0)(hf:Fs (gvS g v) w w')(h:Ga w' base g m A c none)(hn:Nx w v (.slice A m.blk.length c)) :
  TkPY w base g v (m,false,gm0) (.returned (.tuple #[.agg (whc 0 none 0 0 false),.bool false,erv none])) w':=
 ⟨none,0,none,rfl,hf,Bo.nil,Nx.none w v,λ_=>⟨rfl,rfl⟩,.inl ⟨hb,rfl,A,c,h,hn⟩⟩
theorem TkPY.whole{m:Gm}{A:Option Addr}{c:Nat}(hf:Fs (gvS g v) w w')(h:Ga w' base g gm0 none 0 none)(ho:Bo w' base 5 (.slice A m.blk.length c) m.blk)(hn:Nx w v (.slice A m.blk.length c)) :
  TkPY w base g v (gm0,true,m) (.returned (.tuple #[.agg (whc m.st A m.blk.length c m.en),.bool true,erv none])) w':=
 ⟨A,c,none,rfl,hf,ho,hn,(λh=>by cases h),.inl ⟨rfl,rfl,none,0,h,Nx.none w v⟩⟩
end
theorem yt{P:Program}{T:TypeId}{fn:Func}{p q r:Tmp}{v u:Value}{w:World}{g:Nat}{cs:Array Value}(h:fn.results=#[.cell p T,.tmp q,.tmp r])(tmps:Array Value)(hp:tmps.getD p undef=.pointer (some ⟨g,0,none⟩))(hR:Row w g T cs)(hk:AgOk P T cs)
  (hq:tmps.getD q undef=v) (hr:tmps.getD r undef=u):(results fn tmps).run P w=.ok (.tuple #[.agg cs,v,u]) w:=by
 have hl:=Q3 hk hR
 have hp':tmps[p]?.getD undef=.pointer (some ⟨g,0,none⟩):=by simpa using hp
 have hq':tmps[q]?.getD undef=v:=by simpa using hq
 have hr':tmps[r]?.getD undef=u:=by simpa using hr
 simp only[results,h]
 simp[hp',hq',hr',asAddr,hl]
theorem zdt:#[Value.int .u32 0,.slice none 0 0,.bool false]=whc 0 none 0 0 false:=rfl
theorem Jq(w:World)(x:Fm):∃w',(w.alloc (.cells x.c 66)).alloc (.cells #[.int .u32 0,.slice none 0 0,.bool false] 128)=w'∧Row w' w.heap.size 66 x.c∧Row w' (w.heap.size+1) 128 (whc 0 none 0 0 false)∧Below w.heap.size w w'∧w'.heap.size=w.heap.size+2:=
 ⟨_,rfl,(Row.new w _ _).alloc _,by rw[zdt];exact Row.made _ _ _ (by simp),((Below.refl _ _).alloc (Nat.le_refl _) _).alloc (by simp) _,by simp⟩
theorem z2o:∀b:Fin 256,(bits .and .u8 (b.val:Int) 4)=((b.val / 4%2*4:Nat):Int):=by decide +kernel
theorem z0k:∀b:Fin 256,(bits .and .u8 (b.val:Int) 1)=((b.val%2:Nat):Int):=by decide +kernel
theorem zrf(st:Nat)(A:Option Addr)(n c:Nat)(en busy:Bool)(more:Nat)(o:Option Nat)(A':Option Addr)(n' c':Nat):(gac st A n c en busy more o).setIfInBounds 1 (.slice A' n' c')=gac st A' n' c' en busy more o:=rfl
theorem Qc(st:Nat)(A:Option Addr)(n c:Nat)(en busy:Bool)(more:Nat)(o:Option Nat):(gac st A n c en busy more o).size=6:=rfl
theorem js{w:World}{g st:Nat}{A:Option Addr}{n c:Nat}{en busy:Bool}{more:Nat}{o:Option Nat}(h:Row w g 147 (gac st A n c en busy more o)):w.cell? ⟨g,0,none⟩=some (.int .u32 st)∧w.cell? ⟨g,1,none⟩=some (.slice A n c)∧w.cell? ⟨g,2,none⟩=some (.bool en)∧w.cell? ⟨g,3,none⟩=some (.bool busy)∧w.cell? ⟨g,4,none⟩=some (.int .i64 more)∧w.cell? ⟨g,5,none⟩=some (erv o):=
 ⟨h.cell rfl,h.cell rfl,h.cell rfl,h.cell rfl,h.cell rfl,h.cell rfl⟩
theorem zo8(w:World)(st:Nat)(A:Option Addr)(n c:Nat)(en:Bool):∃w',(w.alloc (.cells #[.int .u32 0,.slice none 0 0,.bool false] 128)).setRow w.heap.size (whc st A n c en)=w'∧Row (w.alloc (.cells #[.int .u32 0,.slice none 0 0,.bool false] 128)) w.heap.size 128 (whc 0 none 0 0 false)∧Row w' w.heap.size 128 (whc st A n c en)∧Below w.heap.size w w':=by
 have h1:Row (w.alloc (.cells #[.int .u32 0,.slice none 0 0,.bool false] 128)) w.heap.size 128 (whc 0 none 0 0 false):=by rw[zdt];exact Row.new w _ _
 exact⟨_,rfl,h1,h1.setRow _,zd ((Below.refl _ _).alloc (Nat.le_refl _) _) _ _ (by omega)⟩
theorem zun{w:World}{g st:Nat}{A:Option Addr}{n c:Nat}{en busy:Bool}{more:Nat}{o:Option Nat}(h:Row w g 147 (gac st A n c en busy more o)):w.rangeAt g 0 (whc st A n c en).toList:=by
 refine h.range 0 _ λj v hj=>?_
 rw[Nat.zero_add]
 match j,hj with
 |0,hj=>exact hj
 |1,hj=>exact hj
 |2,hj=>exact hj
 |j+3,hj=>simp[whc] at hj
theorem zcs{m:Gm}{fl:Nat}(h:8192<m.blk.length∨16<m.more):y3 m fl=(gmF 11,false,gm0):=by unfold y3;rw[if_pos h]
theorem zp8{m:Gm}{fl:Nat}(h:¬(8192<m.blk.length∨16<m.more))(h4:fl / 4%2=1):y3 m fl=(gm0,true,m):=by unfold y3;rw[if_neg h,if_pos h4]
theorem zxi{m:Gm}{fl:Nat}(h:¬(8192<m.blk.length∨16<m.more))(h4:fl / 4%2≠1):y3 m fl=(m,false,gm0):=by unfold y3;rw[if_neg h,if_neg h4]
theorem Row.set_far{w:World}{b k:Nat}{t:TypeId}{cs:Array Value}(h:Row w b t cs)(hk:b≠k)(j:Nat)(v:Value):Row (w.setCell ⟨k,j,none⟩ v) b t cs:=(Below.heap_setCell w _ v b hk).trans h
theorem Row.row_far{w:World}{b k:Nat}{t:TypeId}{cs:Array Value}(h:Row w b t cs)(hk:b≠k)(x:Array Value):Row (w.setRow k x) b t cs:=(setRow_other w k b x hk).trans h
theorem Bo.set_far{w:World}{base:Nat}{e:TypeId}{v:Value}{l:List UInt8}(h:Bo w base e v l){k:Nat}(hk:¬ob v k)(j:Nat)(x:Value):Bo (w.setCell ⟨k,j,none⟩ x) base e v l:=OwS.setCell h (a:=⟨k,j,none⟩) hk x
theorem Bo.row_far{w:World}{base:Nat}{e:TypeId}{v:Value}{l:List UInt8}(h:Bo w base e v l){k:Nat}(hk:¬ob v k)(x:Array Value):Bo (w.setRow k x) base e v l:=OwS.setRow h hk x
attribute [local irreducible] Fm.c whc gac y3
theorem zna{w:World}{base g st:Nat}{A:Option Addr}{c:Nat}{en:Bool}{more:Nat}{blk d:List UInt8}{x:Fm}(hR:Row w g 147 (gac st A blk.length c en true more none))(hO:Bo w base 5 (.slice A blk.length c) blk)
  (hD:RdB w w.heap.size x.dA d) (hdn:x.dn=d.length) (_hfl:x.fl<256) (_hlo:0<base∧base≤g) (hb:blk.length≤8192) (hd:d.length≤1000000000) (_hm:more≤17) (h1:8192<blk.length+x.dn) :
  Calls Tryz.prog 164 #[.pointer (some ⟨g,0,none⟩),.agg x.c] w (TkPY w base g (.slice A blk.length c) (gmF 11,false,gm0)):=by
 obtain⟨w1,hw1,t1,t2,t3,t4⟩:=Jq w x
 have T7:=z2w hw1
 have TX:=z2w t1
 have TW:=z2w t2
 have HR:Hid (Row w1 g 147 (gac st A blk.length c en true more none)):=hR.below t3 hR.lt
 have HD:Hid (RdB w1 w.heap.size x.dA d):=hD.below t3
 have HO:Hid (Bo w1 base 5 (.slice A blk.length c) blk):=OwS.below hO t3
 have HN:=z2w hdn
 have HF:Hid (Fs (gvS g (.slice A blk.length c)) w w1):=Fs.of_below t3
 have HSZ:Hid (w.heap.size<w1.heap.size):=by show _<_;rw[t4];omega
 have f1:=(js HR.out).2.1
 have f4:=(js HR.out).2.2.2.2.1
 have d3:w1.cell? ⟨w.heap.size,3,none⟩=some (.slice x.dA x.dn x.dc):=(zf TX.out).2.2.2.1
 clear hw1 t1 t2 t3 t4 hR hD hO _hlo _hfl
 obtain⟨m,hm1⟩:∃m:Nat,m=blk.length+x.dn:=⟨_,rfl⟩
 have hs:IntKind.i64.wrap ((blk.length:Int)+(x.dn:Int))=(m:Int):=by rw[IntWalk.i64_in _ (by omega)];omega
 rw[←hm1] at h1
 have h8:(8192:Int)<(m:Int):=by omega
 clear hm1 h1 hb hd _hm hdn
 go_enter Tryz.func164,Tryz.ntmps164
 go_upto_region 1 with fail
 rw[T7.out]
 clear T7
 refine wp_region_held_drew (S:=λw'=>w'.cell? ⟨w.heap.size,3,none⟩=some (.slice x.dA x.dn x.dc)∧w'.cell? ⟨g,1,none⟩=some (.slice A blk.length c)∧w'.cell? ⟨g,4,none⟩=some (.int .i64 more)) (by kernel_rfl) ⟨d3,f1,f4⟩ (λhHeld=>?_)
 refine tkH 0 ?_
 refine tkH 2 ?_
 refine tkH 3 ?_
 refine tkH 4 ?_
 refine rdH 1 λK hK=>?_
 go_simp
 go_at_call 195
 refine(Yt (w:=w1.drew) f1).mono ?_
 rintro e w' ⟨rfl,rfl⟩
 refine hK.out _ _ ⟨d3,f1,f4⟩ (λhHeld=>?_)
 clear hK K
 try refine ptk ?_
 refine tkH 5 ?_
 refine tkH 6 ?_
 refine tkH 7 ?_
 refine tkS 8 ?_
 refine tkS 9 ?_
 refine tkS 10 ?_
 refine tkS 11 ?_
 refine tkS 12 ?_
 refine tkH 13 ?_
 refine dnH ?_
 clear d3 f1 f4 hs
 have HR2:Hid (Row w1.drew g 147 (gac st A blk.length c en true more none)):=HR.out
 have TW2:Hid (Row w1.drew (w.heap.size+1) 128 (whc 0 none 0 0 false)):=TW.out
 have HF2:Hid (Fs (gvS g (.slice A blk.length c)) w w1.drew):=HF.out.drewN 1
 clear HR TW HF HO HD TX HN HSZ
 generalize w1.drew=w2 at *
 go_wp2_with (refine zn rfl 128 _ rfl (whc 0 none 0 0 false) (by kernel_rfl) ?_)
 refine(qw 11 _).mono ?_
 rintro e w3 ⟨p,rfl,hr,hb3⟩
 have HR3:Hid (Row w3 g 147 (gac st A blk.length c en true more none)):=HR2.out.below hb3 HR2.out.lt
 have TW3:Hid (Row w3 (w.heap.size+1) 128 (whc 0 none 0 0 false)):=TW2.out.below hb3 TW2.out.lt
 have HF3:Hid (Fs (gvS g (.slice A blk.length c)) w w3):=HF2.out.then_below hb3
 have HP:Hid (Row w3 p 174 #[.int .u8 1,.int .u32 11]):=hr
 clear HR2 TW2 HF2 hr hb3
 go_wp2_with (refine ze (cs:=whc 0 none 0 0 false) rfl _ _ rfl rfl rfl TW3.out (j4 _ _ _ _ _ _ _ _ _ _) (qd _ _ _ _ _) ?_)
 exact bodyPost_ret (yt rfl _ rfl (TW3.out.setRow _) (qd _ _ _ _ _) rfl rfl) rfl (TkPY.fail (by omega) (HF3.out.setRow (g:=w.heap.size+1) (λh=>absurd h (by omega)) _) (HP.out.row_far (Row.ne HP.out TW3.out (by decide)) _) (HR3.out.row_far (Row.ne HR3.out TW3.out (by decide)) _) (Qc _ _ _ _ _ _ _ _))
theorem ztj{w:World}{base g st:Nat}{A:Option Addr}{c:Nat}{en:Bool}{more:Nat}{blk d:List UInt8}{x:Fm}(hR:Row w g 147 (gac st A blk.length c en true more none))(hO:Bo w base 5 (.slice A blk.length c) blk)
  (hD:RdB w w.heap.size x.dA d) (hdn:x.dn=d.length) (_hfl:x.fl<256) (_hlo:0<base∧base≤g) (_hb:blk.length≤8192) (_hd:d.length≤1000000000) (hm:more≤17) (h1:blk.length+x.dn≤8192) (h2:16<more) :
  Calls Tryz.prog 164 #[.pointer (some ⟨g,0,none⟩),.agg x.c] w (TkPY w base g (.slice A blk.length c) (gmF 11,false,gm0)):=by
 obtain⟨w1,hw1,t1,t2,t3,t4⟩:=Jq w x
 have T7:=z2w hw1
 have TX:=z2w t1
 have TW:=z2w t2
 have HR:Hid (Row w1 g 147 (gac st A blk.length c en true more none)):=hR.below t3 hR.lt
 have HD:Hid (RdB w1 w.heap.size x.dA d):=hD.below t3
 have HO:Hid (Bo w1 base 5 (.slice A blk.length c) blk):=OwS.below hO t3
 have HN:=z2w hdn
 have HF:Hid (Fs (gvS g (.slice A blk.length c)) w w1):=Fs.of_below t3
 have HSZ:Hid (w.heap.size<w1.heap.size):=by show _<_;rw[t4];omega
 have f1:=(js HR.out).2.1
 have f4:=(js HR.out).2.2.2.2.1
 have d3:w1.cell? ⟨w.heap.size,3,none⟩=some (.slice x.dA x.dn x.dc):=(zf TX.out).2.2.2.1
 clear hw1 t1 t2 t3 t4 hR hD hO _hlo _hfl
 obtain⟨m,hm1⟩:∃m:Nat,m=blk.length+x.dn:=⟨_,rfl⟩
 have hs:IntKind.i64.wrap ((blk.length:Int)+(x.dn:Int))=(m:Int):=by rw[IntWalk.i64_in _ (by omega)];omega
 rw[←hm1] at h1
 have g8:decide ((8192:Int)<(m:Int))=false:=decide_eq_false (by omega)
 have h16:(16:Int)<(more:Int):=by omega
 clear hm1 h1 h2 _hb _hd hm hdn
 go_enter Tryz.func164,Tryz.ntmps164
 go_upto_region 1 with fail
 rw[T7.out]
 clear T7
 refine wp_region_held_drew (S:=λw'=>w'.cell? ⟨w.heap.size,3,none⟩=some (.slice x.dA x.dn x.dc)∧w'.cell? ⟨g,1,none⟩=some (.slice A blk.length c)∧w'.cell? ⟨g,4,none⟩=some (.int .i64 more)) (by kernel_rfl) ⟨d3,f1,f4⟩ (λhHeld=>?_)
 refine tkH 0 ?_
 refine tkH 2 ?_
 refine tkH 3 ?_
 refine tkH 4 ?_
 refine rdH 1 λK hK=>?_
 go_simp
 go_at_call 195
 refine(Yt (w:=w1.drew) f1).mono ?_
 rintro e w' ⟨rfl,rfl⟩
 refine hK.out _ _ ⟨d3,f1,f4⟩ (λhHeld=>?_)
 clear hK K
 try refine ptk ?_
 refine tkH 5 ?_
 refine tkH 6 ?_
 refine tkH 7 ?_
 refine tkH 8 ?_
 refine tkH 9 ?_
 refine tkH 10 ?_
 refine tkH 11 ?_
 refine tkH 12 ?_
 refine tkH 13 ?_
 refine dnH ?_
 clear d3 f1 f4 hs
 have HR2:Hid (Row w1.drew g 147 (gac st A blk.length c en true more none)):=HR.out
 have TW2:Hid (Row w1.drew (w.heap.size+1) 128 (whc 0 none 0 0 false)):=TW.out
 have HF2:Hid (Fs (gvS g (.slice A blk.length c)) w w1.drew):=HF.out.drewN 1
 clear HR TW HF HO HD TX HN HSZ
 generalize w1.drew=w2 at *
 go_wp2_with (refine zn rfl 128 _ rfl (whc 0 none 0 0 false) (by kernel_rfl) ?_)
 refine(qw 11 _).mono ?_
 rintro e w3 ⟨p,rfl,hr,hb3⟩
 have HR3:Hid (Row w3 g 147 (gac st A blk.length c en true more none)):=HR2.out.below hb3 HR2.out.lt
 have TW3:Hid (Row w3 (w.heap.size+1) 128 (whc 0 none 0 0 false)):=TW2.out.below hb3 TW2.out.lt
 have HF3:Hid (Fs (gvS g (.slice A blk.length c)) w w3):=HF2.out.then_below hb3
 have HP:Hid (Row w3 p 174 #[.int .u8 1,.int .u32 11]):=hr
 clear HR2 TW2 HF2 hr hb3
 go_wp2_with (refine ze (cs:=whc 0 none 0 0 false) rfl _ _ rfl rfl rfl TW3.out (j4 _ _ _ _ _ _ _ _ _ _) (qd _ _ _ _ _) ?_)
 exact bodyPost_ret (yt rfl _ rfl (TW3.out.setRow _) (qd _ _ _ _ _) rfl rfl) rfl (TkPY.fail (by omega) (HF3.out.setRow (g:=w.heap.size+1) (λh=>absurd h (by omega)) _) (HP.out.row_far (Row.ne HP.out TW3.out (by decide)) _) (HR3.out.row_far (Row.ne HR3.out TW3.out (by decide)) _) (Qc _ _ _ _ _ _ _ _))
end
section
attribute [local irreducible] Fm.c whc gac y3
theorem zhl{w:World}{base g st:Nat}{A:Option Addr}{c:Nat}{en:Bool}{more:Nat}{blk d:List UInt8}{x:Fm}(hR:Row w g 147 (gac st A blk.length c en true more none))(hO:Bo w base 5 (.slice A blk.length c) blk)
  (hD:RdB w w.heap.size x.dA d) (hdn:x.dn=d.length) (hfl:x.fl<256) (hlo:0<base∧base≤g) (hb:blk.length≤8192) (hd:d.length≤1000000000) (hm:more≤17) :
  Calls Tryz.prog 164 #[.pointer (some ⟨g,0,none⟩),.agg x.c] w (TkPY w base g (.slice A blk.length c) (y3 ⟨true,st,blk++d,en,more,0⟩ x.fl)):=by
 by_cases h1:8192<blk.length+x.dn
 ·rw[zcs (.inl (by show 8192<(blk++d).length;rw[List.length_append];omega))]
  exact zna hR hO hD hdn hfl hlo hb hd hm h1
 by_cases h2:16<more
 ·rw[zcs (.inr h2)]
  exact ztj hR hO hD hdn hfl hlo hb hd hm (by omega) h2
 obtain⟨w1,hw1,t1,t2,t3,t4⟩:=Jq w x
 have T7:=z2w hw1
 have TX:=z2w t1
 have TW:=z2w t2
 have HR:Hid (Row w1 g 147 (gac st A blk.length c en true more none)):=hR.below t3 hR.lt
 have HD:Hid (RdB w1 w.heap.size x.dA d):=hD.below t3
 have HO:Hid (Bo w1 base 5 (.slice A blk.length c) blk):=OwS.below hO t3
 have HN:=z2w hdn
 have HF:Hid (Fs (gvS g (.slice A blk.length c)) w w1):=Fs.of_below t3
 have HLT:Hid (∀k,ob (.slice A blk.length c) k→base≤k∧k<w.heap.size):=λk hk=>OwS.lt hO k hk
 have HGL:=z2w hR.lt
 have HSZ:Hid (w.heap.size<w1.heap.size):=by show _<_;rw[t4];omega
 have HLO:=z2w hlo
 have HBL:=z2w hb
 have HFL:=z2w hfl
 have f1:=(js HR.out).2.1
 have f4:=(js HR.out).2.2.2.2.1
 have d3:w1.cell? ⟨w.heap.size,3,none⟩=some (.slice x.dA x.dn x.dc):=(zf TX.out).2.2.2.1
 clear hw1 t1 t2 t3 t4 hR hD hO hlo hfl
 obtain⟨m,hm1⟩:∃m:Nat,m=blk.length+x.dn:=⟨_,rfl⟩
 have hs:IntKind.i64.wrap ((blk.length:Int)+(x.dn:Int))=(m:Int):=by rw[IntWalk.i64_in _ (by omega)];omega
 obtain⟨L,HL⟩:∃L,Hid (blk++d=L):=⟨_,rfl⟩
 rw[HL.out]
 have HLN:Hid (L.length=m):=by show _=_;rw[←HL.out,List.length_append];omega
 have g8:decide ((8192:Int)<(m:Int))=false:=decide_eq_false (by omega)
 have g16:decide ((16:Int)<(more:Int))=false:=decide_eq_false (by omega)
 have HLE:Hid (¬(8192<(Gm.mk true st L en more 0).blk.length∨16<(Gm.mk true st L en more 0).more)):=by
  show ¬(8192<L.length∨16<more)
  rw[HLN.out]
  omega
 have HM8:Hid (m≤8192):=by show m≤8192;omega
 have HMR:Hid (more≤16):=by show more≤16;omega
 have HD9:Hid (d.length≤1000000000):=hd
 obtain⟨i0,hi0,hz0,hz1,hz2⟩:=Ye zgz
 clear hm1 h1 h2 hb hd hm hdn
 go_enter Tryz.func164,Tryz.ntmps164
 go_upto_region 1 with fail
 rw[T7.out]
 clear T7
 refine wp_region_held_drew (S:=λw'=>w'.cell? ⟨w.heap.size,3,none⟩=some (.slice x.dA x.dn x.dc)∧w'.cell? ⟨g,1,none⟩=some (.slice A blk.length c)∧w'.cell? ⟨g,4,none⟩=some (.int .i64 more)) (by kernel_rfl) ⟨d3,f1,f4⟩ (λhHeld=>?_)
 refine tkH 0 ?_
 refine tkH 2 ?_
 refine tkH 3 ?_
 refine tkH 4 ?_
 refine rdH 1 λK hK=>?_
 go_simp
 go_at_call 195
 refine(Yt (w:=w1.drew) f1).mono ?_
 rintro e w' ⟨rfl,rfl⟩
 refine hK.out _ _ ⟨d3,f1,f4⟩ (λhHeld=>?_)
 clear hK K
 try refine ptk ?_
 refine tkH 5 ?_
 refine tkH 6 ?_
 refine tkH 7 ?_
 refine tkH 8 ?_
 refine tkH 9 ?_
 refine tkH 10 ?_
 refine tkH 11 ?_
 refine tkH 12 ?_
 refine tkH 13 ?_
 refine dnH ?_
 clear g8 g16 hs
 have HR2:Hid (Row w1.drew g 147 (gac st A blk.length c en true more none)):=HR.out
 have TW2:Hid (Row w1.drew (w.heap.size+1) 128 (whc 0 none 0 0 false)):=TW.out
 have TX2:Hid (Row w1.drew w.heap.size 66 x.c):=TX.out
 have HF2:Hid (Fs (gvS g (.slice A blk.length c)) w w1.drew):=HF.out.drewN 1
 have HO2:Hid (Bo w1.drew base 5 (.slice A blk.length c) blk):=HO.out
 have HD2:Hid (RdB w1.drew w.heap.size x.dA d):=HD.out
 have HS2:Hid (w.heap.size<w1.drew.heap.size):=HSZ.out
 have f1':w1.drew.cell? ⟨g,1,none⟩=some (.slice A blk.length c):=f1
 have d3':w1.drew.cell? ⟨w.heap.size,3,none⟩=some (.slice x.dA x.dn x.dc):=d3
 clear HR TW HF HO HD TX HSZ f1 f4 d3
 generalize w1.drew=w2 at *
 generalize hpx:w.heap.size=px at *
 have HPX:=z2w hpx
 clear hpx
 go_wp2_with fail
 have HR3:Hid (Row w2.drew g 147 (gac st A blk.length c en true more none)):=HR2.out
 have TW3:Hid (Row w2.drew (px+1) 128 (whc 0 none 0 0 false)):=TW2.out
 have TX3:Hid (Row w2.drew px 66 x.c):=TX2.out
 have HF3:Hid (Fs (gvS g (.slice A blk.length c)) w w2.drew):=HF2.out.drewN 1
 have HO3:Hid (Bo w2.drew base 5 (.slice A blk.length c) blk):=HO2.out
 have HD3:Hid (RdB w2.drew px x.dA d):=HD2.out
 have HS3:Hid (px<w2.drew.heap.size):=HS2.out
 have f1:w2.drew.cell? ⟨g,1,none⟩=some (.slice A blk.length c):=f1'
 have d3:w2.drew.cell? ⟨px,3,none⟩=some (.slice x.dA x.dn x.dc):=d3'
 clear HR2 TW2 TX2 HF2 HO2 HD2 HS2
 refine qg 12 (λw'=>w'.cell? ⟨g,1,none⟩=some (.slice A blk.length c)∧w'.cell? ⟨px,3,none⟩=some (.slice x.dA x.dn x.dc)) (by kernel_rfl) ⟨f1,d3⟩ (λhHeld=>?_)
 generalize w2.drew=w3 at *
 clear f1' d3'
 refine tkE 0 ?_
 refine tkE 1 ?_
 refine tkE 2 ?_
 refine tkE 3 ?_
 refine tkE 4 ?_
 refine tkE 5 ?_
 refine tkE 6 ?_
 refine tkE 7 ?_
 refine zm (i:=8) (by kernel_rfl) rfl (λK hK=>?_)
 refine jp rfl (.tmp 29) (.tmp 31) 22 rfl base 5 i0 Tryz.underlying22 hi0 hz0 hz1 hz2 (.slice A blk.length c) blk rfl HO3.out px x.dA d x.dn x.dc rfl HN.out HD3.out (by have:=HBL.out;have:=HD9.out;omega) (by have:=HGL.out;have:=HLO.out;have:=HS3.out;omega) (λv4 w4 hO4 hF4 hN4=>?_)
 rw[HL.out] at hO4
 obtain⟨A',c',rfl,hle⟩:=hO4.shape
 have HR4:Hid (Row w4 g 147 (gac st A blk.length c en true more none)):=hF4.row (HO3.out.ne HR3.out (by decide)) HR3.out
 have TW4:Hid (Row w4 (px+1) 128 (whc 0 none 0 0 false)):=hF4.row (HO3.out.ne TW3.out (by decide)) TW3.out
 have TX4:Hid (Row w4 px 66 x.c):=hF4.row (HO3.out.ne TX3.out (by decide)) TX3.out
 have HF4:Hid (Fs (gvS g (.slice A blk.length c)) w w4):=HF3.out.trans hF4 (λk _ hk=>.inr hk)
 have HN4:Hid (Nx w (.slice A blk.length c) (.slice A' L.length c')):=by
  rcases hN4 with h|h
  ·exact .inl h
  ·exact .inr λk hk=>by have:=h k hk;have:=HS3.out;have:=HPX.out;omega
 have HO4:=z2w hO4
 have q1:=(js HR4.out).2.1
 have q3:=(zf TX4.out).2.2.2.1
 have ht:=HR4.out.thawed 1
 clear hO4 hF4 hN4 hle HR3 TW3 TX3 HF3 HO3 HD3 HS3 f1 d3 hHeld
 refine hK.out _ _ ⟨q1,q3⟩ (λhHeld=>?_)
 clear hK K
 try refine ptk ?_
 refine tkE 9 ?_
 refine tkE 10 ?_
 refine tkE 11 ?_
 refine qh (by kernel_rfl) rfl (by kernel_rfl) (λK hK=>?_)
 go_simp
 refine hK.out _ _ ?_
 clear hK K
 try refine ptk ?_
 have HR5:Hid (Row (w4.setCell ⟨g,1,none⟩ (.slice A' L.length c')) g 147 (gac st A' L.length c' en true more none)):=by
  have:=HR4.out.stored 1 (.slice A' L.length c')
  rw[zrf] at this
  exact this
 have TW5:=z2w (TW4.out.set_far (Row.ne TW4.out HR4.out (by decide)) 1 (.slice A' L.length c'))
 have TX5:=z2w (TX4.out.set_far (Row.ne TX4.out HR4.out (by decide)) 1 (.slice A' L.length c'))
 have HF5:=z2w (HF4.out.setCell (g:=g) (λ_=>.inl rfl) 1 (.slice A' L.length c'))
 have HO5:Hid (Bo (w4.setCell ⟨g,1,none⟩ (.slice A' L.length c')) base 5 (.slice A' L.length c') L):=HO4.out.set_far (HO4.out.ne HR4.out (by decide)) 1 _
 clear HR4 TW4 TX4 HF4 HO4 q1 q3 ht hHeld
 generalize w4.setCell ⟨g,1,none⟩ (.slice A' L.length c')=w5 at *
 have k1:=(zf TX5.out).2.1
 have h4:=z2o ⟨x.fl,HFL.out⟩
 simp only at h4
 have HOK:Hid (Gm.Ok ⟨true,st,L,en,more,0⟩):=⟨λe=>(by cases e),λ_=>rfl,by show L.length≤8192;rw[HLN.out];exact HM8.out,HMR.out,by show 0≤11;omega⟩
 by_cases hf:x.fl / 4%2=1
 ·have HE:=z2w (zp8 (m:=⟨true,st,L,en,more,0⟩) HLE.out hf)
  rw[hf] at h4
  clear hf HLE HM8 HMR HD9 HLN
  obtain⟨w6,hw6,t1,t2,t3⟩:=zo8 w5 st A' L.length c' en
  have T7:=z2w hw6
  have T1:=z2w t1
  have T2:=z2w t2
  have HR6:Hid (Row w6 g 147 (gac st A' L.length c' en true more none)):=HR5.out.below t3 HR5.out.lt
  have TW6:Hid (Row w6 (px+1) 128 (whc 0 none 0 0 false)):=TW5.out.below t3 TW5.out.lt
  have HF6:Hid (Fs (gvS g (.slice A blk.length c)) w w6):=HF5.out.then_below t3
  have HO6:Hid (Bo w6 base 5 (.slice A' L.length c') L):=OwS.below HO5.out t3
  have HPT:=z2w (zun HR5.out)
  have HNE:Hid (w5.heap.size≠px+1):=λe=>absurd TW5.out.lt (by omega)
  clear hw6 t1 t2 t3
  go_upto_region 7 with (first|(refine xn (cs:=whc st A' L.length c' en) rfl _ rfl rfl HPT.out (qd _ _ _ _ _) ?_)|(refine ze (cs:=whc st A' L.length c' en) rfl _ _ rfl rfl rfl T1.out (j4 _ _ _ _ _ _ _ _ _ _) (qd _ _ _ _ _) ?_))
  rw[T7.out]
  clear T7 T1 HR5 TW5 HF5 HO5 HPT TX5 k1 h4
  generalize w5.heap.size=pw at *
  go_wp2_with (first|(refine zn rfl 147 _ rfl (gac 0 none 0 0 false false 0 none) (by kernel_rfl) ?_)|(refine ze (cs:=gac 0 none 0 0 false false 0 none) rfl _ _ rfl rfl rfl HR6.out (by rw[Qc,Qc]) (ztp _ _ _ _ _ _ _ _) ?_)|(refine zj rfl _ rfl rfl (T2.out.row_far (Row.ne T2.out HR6.out (by decide)) _) (qd _ _ _ _ _) ?_)|(refine ze (cs:=whc st A' L.length c' en) rfl _ _ rfl rfl rfl (TW6.out.row_far (Row.ne TW6.out HR6.out (by decide)) _) (j4 _ _ _ _ _ _ _ _ _ _) (qd _ _ _ _ _) ?_))
  have HGA:Ga ((w6.setRow g (gac 0 none 0 0 false false 0 none)).setRow (px+1) (whc st A' L.length c' en)) base g gm0 none 0 none:=
   ⟨(HR6.out.setRow _).row_far (Row.ne HR6.out TW6.out (by decide)) _,Bo.nil,λ_=>⟨rfl,rfl⟩,.inl ⟨rfl,rfl⟩,zn7,HLO.out⟩
  refine bodyPost_ret (v:=.tuple #[.agg (whc st A' L.length c' en),.bool true,.nilIface]) (yt rfl _ rfl ((TW6.out.row_far (Row.ne TW6.out HR6.out (by decide)) _).setRow _) (qd _ _ _ _ _) rfl rfl) rfl ?_
  rw[HE.out]
  exact TkPY.whole (m:=⟨true,st,L,en,more,0⟩) ((HF6.out.setRow (g:=g) (λ_=>.inl rfl) _).setRow (g:=px+1) (λh=>absurd h (by have:=HPX.out;omega)) _) HGA ((HO6.out.row_far (HO6.out.ne HR6.out (by decide)) _).row_far (HO6.out.ne TW6.out (by decide)) _) HN4.out
 ·have HE:=z2w (zxi (m:=⟨true,st,L,en,more,0⟩) HLE.out hf)
  rw[show x.fl / 4%2=0 by omega] at h4
  clear hf HLE HM8 HMR HD9 HLN
  go_wp2_with (first|(refine zn rfl 128 _ rfl (whc 0 none 0 0 false) (by kernel_rfl) ?_)|(refine ze (cs:=whc 0 none 0 0 false) rfl _ _ rfl rfl rfl TW5.out (j4 _ _ _ _ _ _ _ _ _ _) (qd _ _ _ _ _) ?_))
  have HGA:Ga (w5.setRow (px+1) (whc 0 none 0 0 false)) base g ⟨true,st,L,en,more,0⟩ A' c' none:=
   ⟨HR5.out.row_far (Row.ne HR5.out TW5.out (by decide)) _,HO5.out.row_far (HO5.out.ne TW5.out (by decide)) _,λe=>(by cases e),.inl ⟨rfl,rfl⟩,HOK.out,HLO.out⟩
  refine bodyPost_ret (v:=.tuple #[.agg (whc 0 none 0 0 false),.bool false,.nilIface]) (yt rfl _ rfl (TW5.out.setRow _) (qd _ _ _ _ _) rfl rfl) rfl ?_
  rw[HE.out]
  exact TkPY.on (m:=⟨true,st,L,en,more,0⟩) rfl (HF5.out.setRow (g:=px+1) (λh=>absurd h (by have:=HPX.out;omega)) _) HGA HN4.out
end
section
open Go.ChangeShapes Go.WideShapes Go.RowKit Go.Deep Go.Joins
structure Be where
 x:Fm
 d:List UInt8
 hd:x.dn=d.length
 hty:x.ty<256
 hfl:x.fl<256
 hst:x.st<4294967296
def bec(e:Be):List Value:=e.x.c.toList
theorem zja(e:Be):(bec e).length=11:=by unfold bec Fm.c;rfl
section
variable {H:Type}{hc:TypeId × Value→H}
end
end
section
def Zl(s c:Int):Array Value:=#[.int .u8 s,.int .u32 c]
theorem zyk(s c s' c':Int):(Zl s c).size=(Zl s' c').size:=rfl
theorem z1w:#[Value.int .u8 0,.int .u32 0]=Zl 0 0:=rfl
theorem zqy:(Tryz.prog.info? 29).map (·.size)=some 2:=by kernel_rfl
theorem zm8(s c:Int):AgOk Tryz.prog 29 (Zl s c):=⟨⟨_,Tryz.underlying29⟩,zqy,by unfold Zl;kernel_rfl⟩
theorem zzv(a b:Int):(a == b)=decide (a=b):=by
 by_cases h:a=b
 ·subst h;simp
 ·simp[h]
section
variable {P:Program}
end
theorem zkw(w:World):Row (w.alloc (.cells #[.int .u8 0,.int .u32 0] 29)) w.heap.size 29 (Zl 0 0)∧Below w.heap.size w (w.alloc (.cells #[.int .u8 0,.int .u32 0] 29))∧(w.alloc (.cells #[.int .u8 0,.int .u32 0] 29)).heap.size=w.heap.size+1:=by
 refine⟨by rw[z1w];exact Row.new w _ _,(Below.refl _ _).alloc (Nat.le_refl _) _,by simp⟩
def car(k:Int):Bool:=decide (k=1∨k=0)
def za3(s:Int)(e:Bool):Int:=if e=true then (if s=2 then 4 else 3) else s
def Xy(s:Int)(e:Bool):Int:=if e=true then (if s=3 then 4 else 2) else s
def sd(s k:Int)(e:Bool):Int × Bool:=
 if s=0 then (if k=1 then (if e=true then (2,true) else (1,true)) else (s,false))
 else if (k=1∨k=0)∧(s=1∨s=3) then (Xy s e,true)
 else if k=3∧1≤s∧s≤3 then (5,true)
 else (s,decide (k=8∧(s=1∨s=2)))
def Z8(s k:Int)(e:Bool):Int × Int × Int:=
 if k=1∧e=false then (s,2,1) else if k=1∨k=0 then (za3 s e,0,0) else if k=3 then (6,0,0) else (s,0,0)
def jm(s k:Int)(e:Bool):Int × Int × Int:=
 if s=0 then (if k=1 then (if e=true then (3,0,0) else (1,0,0)) else (s,1,1))
 else if s=1∨s=2 then Z8 s k e
 else if s=3∧k=3 then (6,0,0)
 else if (s=3∨s=6)∧(k=1∨k=0) then (s,2,5)
 else if s=4∧(k=1∨k=0) then (s,1,5)
 else (s,0,0)
def cm(s k:Int)(e:Bool):Int × Int × Int:=
 if 6<s then (s,1,2)
 else if k=2 then (s,0,0)
 else if k=0∨k=1∨k=3∨k=8 then jm s k e
 else (s,1,1)
end
end Go.Proofs.YtooaajnkiokpnaaGreatDoor
