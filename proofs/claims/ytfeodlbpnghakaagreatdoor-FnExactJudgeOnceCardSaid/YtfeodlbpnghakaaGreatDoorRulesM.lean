/-
  The contracts of impl.instrRules and impl.instrsFit. No condition.
-/
import Derived.Test.YtfeodlbpnghakaaGreatDoorSInstrM
import Derived.Test.YtfeodlbpnghakaaGreatDoorNumberM
import Derived.Deep.RegionHeld
set_option maxRecDepth 100000
set_option maxHeartbeats 8000000
namespace Go.Proofs.YtfeodlbpnghakaaGreatDoor
open Go.RowKit
def insB (xs:List In)(i:Nat)(n1 n2:Nat):Bool:=match xs with
 | []=>true
 | x :: xs=>Zay x i n1 n2 && insB xs (i+1) n1 n2
theorem Zfy (a:List In)(i n1 n2:Nat)(x:In)(h:a[i]? = some x):insB (a.drop i) i n1 n2=(Zay x i n1 n2 && insB (a.drop (i+1)) (i+1) n1 n2):=by
 obtain ⟨b,c⟩:=List.getElem?_eq_some_iff.1 h
 rw [List.drop_eq_getElem_cons b,c]
 rfl
def Zfz:Array Value:=#[.nilFunc,.func (.func 178) #[] #[],.func (.func 179) #[] #[],.func (.func 180) #[] #[],.func (.func 181) #[] #[],.func (.func 181) #[] #[],.func (.func 182) #[] #[],.func (.func 183) #[] #[],.func (.func 184) #[] #[],.func (.func 184) #[] #[]]
theorem ZcB {P:Program}(w:World)(d:Nat)(t:TypeId)(c rs:Array TypeId)(v:Bool)(f:Fn)(a b:Array Value)(h:P.underlying t=some (.func c rs v)):(Op.equalIn (d+1) t (.func f a b) .nilFunc).run P w=.ok false w:=by
 simp [Op.equalIn,run_underlying h]
theorem ZcL {P:Program}(w:World)(d:Nat)(t:TypeId)(a rs:Array TypeId)(v:Bool)(h:P.underlying t=some (.func a rs v)):(Op.equalIn (d+1) t .nilFunc .nilFunc).run P w=.ok true w:=by
 simp [Op.equalIn,run_underlying h]
theorem ZeL (f:Fn)(a b:Array Value)(w:World):Sem.run Tryz.prog (binOp .eql 229 (.func f a b) .nilFunc) w=.ok (.bool false) w:=by
 have h:(Op.equal 229 (.func f a b) .nilFunc).run Tryz.prog w=.ok false w:=ZcB w 9999 _ _ _ _ f a b Tryz.underlying229
 simp only [binOp]
 simp [h]
theorem Ziy (w:World):Sem.run Tryz.prog (binOp .eql 229 .nilFunc .nilFunc) w=.ok (.bool true) w:=by
 have h:(Op.equal 229 .nilFunc .nilFunc).run Tryz.prog w=.ok true w:=ZcL w 9999 _ _ _ _ Tryz.underlying229
 simp only [binOp]
 simp [h]
theorem Zen:Zfz.all (·.oneCell')=true:=by simp [Zfz,Value.oneCell']
theorem Znk:(Tryz.prog.info? 230).map (·.size)=some 10:=by kernel_rfl
theorem Zd0 (w:World):Calls Tryz.prog 150 #[] w fun e g=>e=.returned (.agg Zfz)/\Below w.heap.size w g:=by
 go_enter Tryz.func150,Tryz.ntmps150
 go_wp2_with (refine Zai rfl 230 _ _ rfl w.heap.size Zfz rfl rfl 230 _ (heap_alloc_new _ _) Znk rfl Zen ?_)
 intro d a b f
 have c:Below w.heap.size w d:=((Below.refl _ _).alloc (Nat.le_refl _) _).trans b
 go_wp2
 exact bodyPost_ret (results_cell_row rfl _ _ w.heap.size 230 _ (0,0) _ rfl a Tryz.underlying230 rfl Znk) rfl ⟨rfl,c⟩
theorem ZaX {w wr b:World}{o:Obj}(a:Below w.heap.size w wr)(c:Below (wr.alloc o).drew.heap.size (wr.alloc o).drew b):Below w.heap.size w b :=
 ((a.alloc a.size o).drew).trans (c.mono (((a.alloc a.size o).drew).size))
theorem Zbb {a wr b:World}{o:Obj}(c:Below a.heap.size a wr)(d:Below (wr.alloc o).drew.heap.size (wr.alloc o).drew b):Below a.heap.size a b:=ZaX c d
theorem Zbw {wr a:World}{cs:Array Value}{t:TypeId}{z r:Nat}{u0 u1 u2 u3 k e l f:Value}(j:Below (wr.alloc (Obj.cells cs t)).drew.heap.size (wr.alloc (Obj.cells cs t)).drew a)(d:z < wr.heap.size)(o:r < wr.heap.size)(n:Nat)(m:cs[0]? = some u0)(q:cs[1]? = some u1)(s:cs[2]? = some u2)(u:cs[3]? = some u3)(x:wr.cell? ⟨z,0,none⟩=some k)(w:wr.cell? ⟨z,0+1,none⟩=some e)(y:wr.cell? ⟨z,0+2,none⟩=some l)(B:wr.cell? ⟨r,n,none⟩=some f) :
  a.cell? ⟨wr.heap.size,0,none⟩=some u0/\a.cell? ⟨wr.heap.size,1,none⟩=some u1/\a.cell? ⟨wr.heap.size,2,none⟩=some u2/\a.cell? ⟨wr.heap.size,3,none⟩=some u3/\a.cell? ⟨z,0,none⟩=some k/\a.cell? ⟨z,1,none⟩=some e/\a.cell? ⟨z,2,none⟩=some l/\a.cell? ⟨r,n,none⟩=some f:=by
 have c:a.heap[wr.heap.size]? = some (Obj.cells cs t):=(j.block _ (by simp)).trans (heap_alloc_new _ _)
 have b:∀ (g i:Nat) (v:Value),g < wr.heap.size -> wr.cell? ⟨g,i,none⟩=some v -> a.cell? ⟨g,i,none⟩=some v:=fun g i v A h=>by
  rw [j.cell (p:=⟨g,i,none⟩) (by simp;omega)]
  show (wr.alloc (Obj.cells cs t)).cell? ⟨g,i,none⟩=some v
  rw [World.cell?_alloc_lt _ _ _ A]
  exact h
 exact ⟨by rw [cell_of_row a _ 0 _ _ _ c];exact m,by rw [cell_of_row a _ 1 _ _ _ c];exact q,by rw [cell_of_row a _ 2 _ _ _ c];exact s,by rw [cell_of_row a _ 3 _ _ _ c];exact u,b z 0 _ d x,b z 1 _ d w,b z 2 _ d y,b r n _ o B⟩
theorem Ze0 (H G:Option Addr)(n1 c1 F c3:Nat)(v2:Value)(is:List In)(w:World)(R:InRow w v2 is) :
  Calls Tryz.prog 124 #[.agg #[.slice H n1 c1,v2,.slice G F c3]] w fun e a=>e=.returned (.bool (decide (is.length <= 400) && insB is 0 n1 is.length))/\Below w.heap.size w a:=by
 have am:=R
 obtain ⟨a2,c2,rfl,ai,hm,hz,z⟩:=R
 by_cases hl:is.length <= 400
 ·have E:Hid (decide (is.length <= 400)=true):=by unfold Hid;simp [hl]
  go_enter Tryz.func124,Tryz.ntmps124
  have U:Below w.heap.size w (w.alloc (Obj.cells #[.slice H n1 c1,.slice a2 is.length c2,.slice G F c3] 44)):=(Below.refl _ _).alloc (Nat.le_refl _) _
  go_wp2_with fail
  refine (Zd0 _).mono ?_
  rintro e y ⟨rfl,X⟩
  have S:y.heap[w.heap.size]? = some (.cells #[.slice H n1 c1,.slice a2 is.length c2,.slice G F c3] 44 (0,0)):=(X.block _ (by simp)).trans (heap_alloc_new _ _)
  have T:=U.trans (X.mono U.size)
  have ac:=(bl S)
  clear U X
  go_wp2_with (refine Zai rfl 230 _ _ rfl y.heap.size Zfz rfl rfl 230 _ (heap_alloc_new _ _) Znk rfl Zen ?_)
  intro O Y W aa
  have V:=(W.block _ (by simpa using ac)).trans ((heap_alloc_old _ _ ac).trans S)
  have af:Below w.heap.size w O:=T.trans ((((Below.refl _ _).alloc (Nat.le_refl _) _).trans W).mono T.size)
  have ae:O.heap.size=y.heap.size+1:=by simpa using aa
  have Q:y.heap.size < O.heap.size:=by omega
  have N:w.heap.size < O.heap.size:=by omega
  have ah:O.cell? ⟨w.heap.size,0+1,none⟩=some (.slice a2 is.length c2):=by rw [cell_of_row O _ 1 _ _ _ V];rfl
  clear S W aa ae T
  go_wp2_with fail
  go_loopw [14] (fun i wr=>∃ k:Nat,k <= is.length/\i=.int .i64 k/\Hid (insB is 0 n1 is.length=insB (is.drop k) k n1 is.length)/\Below O.heap.size O wr) (fun i _=>is.length - (intOf i).toNat)
  case atStart=>exact ⟨0,by omega,rfl,rfl,Below.refl _ _⟩
  case round =>
   obtain ⟨k,hk,rfl,HK,I⟩:=hrel
   have D:=af.trans (I.mono af.size)
   by_cases ad:k < is.length
   ·obtain ⟨g,o,rfl,hg,z⟩:=z (by intro e;subst e;simp at ad)
    obtain ⟨x,hx⟩:∃ x,is[k]? = some x:=⟨is[k],by simp [ad]⟩
    obtain ⟨J,M,K,L⟩:=(z k x hx).below D hg
    have Z:=hz x (List.mem_of_getElem? hx)
    have j:Hid (insB is 0 n1 is.length=(Zay x k n1 is.length && insB (is.drop (k+1)) (k+1) n1 is.length)):=by unfold Hid;rw [HK.out,Zfy is k n1 is.length x hx]
    have v:=(I.block _ N).trans V
    have l:=(I.block _ Q).trans Y
    have ab:=I.size
    clear z hx HK V Y ah
    have A:wr.cell? ⟨w.heap.size,0,none⟩=some (.slice H n1 c1):=by rw [cell_of_row wr _ 0 _ _ _ v];rfl
    have C:wr.cell? ⟨w.heap.size,0+1,none⟩=some (.slice (some ⟨g,o,none⟩) is.length c2):=by rw [cell_of_row wr _ 1 _ _ _ v];rfl
    have B:wr.cell? ⟨w.heap.size,0+2,none⟩=some (.slice G F c3):=by rw [cell_of_row wr _ 2 _ _ _ v];rfl
    obtain ⟨n,h,d,f⟩:=x
    have hc:n < 0 \/ 10 <= n \/ n=0 \/ n=1 \/ n=2 \/ n=3 \/ n=4 \/ n=5 \/ n=6 \/ n=7 \/ n=8 \/ n=9:=by omega
    dsimp only at J M K L Z
    have q:w.heap.size < wr.heap.size:=Nat.lt_of_lt_of_le N ab
    have p:y.heap.size < wr.heap.size:=Nat.lt_of_lt_of_le Q ab
    have ak:=ZeL
    have aj:=Ziy
    rcases hc with hc | hc | rfl | rfl | rfl | rfl | rfl | rfl | rfl | rfl | rfl | rfl
    ·have u:Hid (insB is 0 n1 is.length=false):=by unfold Hid;rw [j.out];simp [Zay,show ¬ n=1 by omega,show ¬ n=2 by omega,show ¬ n=3 by omega,show ¬ n=4 by omega,show ¬ n=5 by omega,show ¬ n=6 by omega,show ¬ n=7 by omega,show ¬ n=8 by omega,show ¬ n=9 by omega]
     have ag:decide (n < 0)=true:=by simp [hc]
     clear j
     go_wp2_with fail
     go_quiet (fail)
     all_goals
      go_wp2
      go_ret
      exact ⟨by rw [E.out,u.out];rfl,(D.alloc D.size _).trans ⟨rfl,rfl,rfl,Nat.le_refl _,fun _ _=>rfl⟩⟩
    ·have u:Hid (insB is 0 n1 is.length=false):=by unfold Hid;rw [j.out];simp [Zay,show ¬ n=1 by omega,show ¬ n=2 by omega,show ¬ n=3 by omega,show ¬ n=4 by omega,show ¬ n=5 by omega,show ¬ n=6 by omega,show ¬ n=7 by omega,show ¬ n=8 by omega,show ¬ n=9 by omega]
     have ag:decide (n < 0)=false:=by simp;omega
     have al:decide (10 <= n)=true:=by simp [hc]
     clear j
     go_wp2_with fail
     go_quiet (fail)
     all_goals
      go_wp2
      go_ret
      exact ⟨by rw [E.out,u.out];rfl,(D.alloc D.size _).trans ⟨rfl,rfl,rfl,Nat.le_refl _,fun _ _=>rfl⟩⟩
    ·have u:Hid (insB is 0 n1 is.length=false):=by unfold Hid;rw [j.out];simp [Zay]
     have r:wr.cell? ⟨y.heap.size,0,none⟩=some .nilFunc:=by rw [cell_of_row wr _ 0 _ _ _ l];rfl
     clear j
     go_wp2_with fail
     go_quiet (fail)
     all_goals
      go_wp2
      go_ret
      exact ⟨by rw [E.out,u.out];rfl,(D.alloc D.size _).trans ⟨rfl,rfl,rfl,Nat.le_refl _,fun _ _=>rfl⟩⟩
    ·have t:Hid (Zay ⟨1,h,d,f⟩ k n1 is.length=litB ⟨1,h,d,f⟩ n1):=by unfold Hid;simp [Zay]
     have r:wr.cell? ⟨y.heap.size,1,none⟩=some (.func (.func 178) #[] #[]):=by rw [cell_of_row wr _ 1 _ _ _ l];rfl
     rw [t.out] at j
     clear t l v
     go_wp2_with fail
     go_region_held (fun a=>a.cell? ⟨wr.heap.size,0,none⟩=some (.int .i64 1)/\a.cell? ⟨wr.heap.size,1,none⟩=some (.int .i64 h)/\a.cell? ⟨wr.heap.size,2,none⟩=some (.int .i64 d)/\a.cell? ⟨wr.heap.size,3,none⟩=some (.string f)/\a.cell? ⟨w.heap.size,0,none⟩=some (.slice H n1 c1)/\a.cell? ⟨w.heap.size,1,none⟩=some (.slice (some ⟨g,o,none⟩) is.length c2)/\a.cell? ⟨w.heap.size,2,none⟩=some (.slice G F c3)/\a.cell? ⟨y.heap.size,1,none⟩=some (.func (.func 178) #[] #[])) (first | exact s | go_keep) (first
      | (go_at_call 178;refine (ZiM ⟨1,h,d,f⟩ _ _ _ _ _ _ _ _ _ _ _).mono ?_;rintro e P ⟨rfl,c⟩;have m:=ZaX D c;have s:=Zbw c q p 1 rfl rfl rfl rfl A C B r))
     all_goals
      generalize litB ⟨1,h,d,f⟩ n1=b at j
      clear s A C B r J M K L
      cases b with
      | false =>
       have u:Hid (insB is 0 n1 is.length=false):=by unfold Hid;rw [j.out];rfl
       go_wp2
       go_ret
       exact ⟨by rw [E.out,u.out];rfl,m⟩
      | true =>
       go_wp2
       go_roundw
       case rel=>exact ⟨k+1,by omega,by go_num,(by unfold Hid;rw [j.out,Bool.true_and]),Zbb I c⟩
       case measure=>simp [intOf];omega
    ·have t:Hid (Zay ⟨2,h,d,f⟩ k n1 is.length=varB ⟨2,h,d,f⟩):=by unfold Hid;simp [Zay]
     have r:wr.cell? ⟨y.heap.size,2,none⟩=some (.func (.func 179) #[] #[]):=by rw [cell_of_row wr _ 2 _ _ _ l];rfl
     rw [t.out] at j
     clear t l v
     go_wp2_with fail
     go_region_held (fun a=>a.cell? ⟨wr.heap.size,0,none⟩=some (.int .i64 2)/\a.cell? ⟨wr.heap.size,1,none⟩=some (.int .i64 h)/\a.cell? ⟨wr.heap.size,2,none⟩=some (.int .i64 d)/\a.cell? ⟨wr.heap.size,3,none⟩=some (.string f)/\a.cell? ⟨w.heap.size,0,none⟩=some (.slice H n1 c1)/\a.cell? ⟨w.heap.size,1,none⟩=some (.slice (some ⟨g,o,none⟩) is.length c2)/\a.cell? ⟨w.heap.size,2,none⟩=some (.slice G F c3)/\a.cell? ⟨y.heap.size,2,none⟩=some (.func (.func 179) #[] #[])) (first | exact s | go_keep) (first
      | (go_at_call 179;refine (ZjD ⟨2,h,d,f⟩ _ _ _ _ _ _ _ _ _ _ _).mono ?_;rintro e P ⟨rfl,c⟩;have m:=ZaX D c;have s:=Zbw c q p 2 rfl rfl rfl rfl A C B r))
     all_goals
      generalize varB ⟨2,h,d,f⟩=b at j
      clear s A C B r J M K L
      cases b with
      | false =>
       have u:Hid (insB is 0 n1 is.length=false):=by unfold Hid;rw [j.out];rfl
       go_wp2
       go_ret
       exact ⟨by rw [E.out,u.out];rfl,m⟩
      | true =>
       go_wp2
       go_roundw
       case rel=>exact ⟨k+1,by omega,by go_num,(by unfold Hid;rw [j.out,Bool.true_and]),Zbb I c⟩
       case measure=>simp [intOf];omega
    ·have t:Hid (Zay ⟨3,h,d,f⟩ k n1 is.length=Zbf ⟨3,h,d,f⟩):=by unfold Hid;simp [Zay]
     have r:wr.cell? ⟨y.heap.size,3,none⟩=some (.func (.func 180) #[] #[]):=by rw [cell_of_row wr _ 3 _ _ _ l];rfl
     rw [t.out] at j
     clear t l v
     go_wp2_with fail
     go_region_held (fun a=>a.cell? ⟨wr.heap.size,0,none⟩=some (.int .i64 3)/\a.cell? ⟨wr.heap.size,1,none⟩=some (.int .i64 h)/\a.cell? ⟨wr.heap.size,2,none⟩=some (.int .i64 d)/\a.cell? ⟨wr.heap.size,3,none⟩=some (.string f)/\a.cell? ⟨w.heap.size,0,none⟩=some (.slice H n1 c1)/\a.cell? ⟨w.heap.size,1,none⟩=some (.slice (some ⟨g,o,none⟩) is.length c2)/\a.cell? ⟨w.heap.size,2,none⟩=some (.slice G F c3)/\a.cell? ⟨y.heap.size,3,none⟩=some (.func (.func 180) #[] #[])) (first | exact s | go_keep) (first
      | (go_at_call 180;refine (Zfj ⟨3,h,d,f⟩ _ _ _ _ _ _ _ _ _ _ _ Z).mono ?_;rintro e P ⟨rfl,c⟩;have m:=ZaX D c;have s:=Zbw c q p 3 rfl rfl rfl rfl A C B r))
     all_goals
      generalize Zbf ⟨3,h,d,f⟩=b at j
      clear s A C B r J M K L
      cases b with
      | false =>
       have u:Hid (insB is 0 n1 is.length=false):=by unfold Hid;rw [j.out];rfl
       go_wp2
       go_ret
       exact ⟨by rw [E.out,u.out];rfl,m⟩
      | true =>
       go_wp2
       go_roundw
       case rel=>exact ⟨k+1,by omega,by go_num,(by unfold Hid;rw [j.out,Bool.true_and]),Zbb I c⟩
       case measure=>simp [intOf];omega
    ·have t:Hid (Zay ⟨4,h,d,f⟩ k n1 is.length=wayB ⟨4,h,d,f⟩ k is.length):=by unfold Hid;simp [Zay]
     have r:wr.cell? ⟨y.heap.size,4,none⟩=some (.func (.func 181) #[] #[]):=by rw [cell_of_row wr _ 4 _ _ _ l];rfl
     rw [t.out] at j
     clear t l v
     go_wp2_with fail
     go_region_held (fun a=>a.cell? ⟨wr.heap.size,0,none⟩=some (.int .i64 4)/\a.cell? ⟨wr.heap.size,1,none⟩=some (.int .i64 h)/\a.cell? ⟨wr.heap.size,2,none⟩=some (.int .i64 d)/\a.cell? ⟨wr.heap.size,3,none⟩=some (.string f)/\a.cell? ⟨w.heap.size,0,none⟩=some (.slice H n1 c1)/\a.cell? ⟨w.heap.size,1,none⟩=some (.slice (some ⟨g,o,none⟩) is.length c2)/\a.cell? ⟨w.heap.size,2,none⟩=some (.slice G F c3)/\a.cell? ⟨y.heap.size,4,none⟩=some (.func (.func 181) #[] #[])) (first | exact s | go_keep) (first
      | (go_at_call 181;refine (ZfT ⟨4,h,d,f⟩ _ _ _ _ _ _ _ _ _ _ _).mono ?_;rintro e P ⟨rfl,c⟩;have m:=ZaX D c;have s:=Zbw c q p 4 rfl rfl rfl rfl A C B r))
     all_goals
      generalize wayB ⟨4,h,d,f⟩ k is.length=b at j
      clear s A C B r J M K L
      cases b with
      | false =>
       have u:Hid (insB is 0 n1 is.length=false):=by unfold Hid;rw [j.out];rfl
       go_wp2
       go_ret
       exact ⟨by rw [E.out,u.out];rfl,m⟩
      | true =>
       go_wp2
       go_roundw
       case rel=>exact ⟨k+1,by omega,by go_num,(by unfold Hid;rw [j.out,Bool.true_and]),Zbb I c⟩
       case measure=>simp [intOf];omega
    ·have t:Hid (Zay ⟨5,h,d,f⟩ k n1 is.length=wayB ⟨5,h,d,f⟩ k is.length):=by unfold Hid;simp [Zay]
     have r:wr.cell? ⟨y.heap.size,5,none⟩=some (.func (.func 181) #[] #[]):=by rw [cell_of_row wr _ 5 _ _ _ l];rfl
     rw [t.out] at j
     clear t l v
     go_wp2_with fail
     go_region_held (fun a=>a.cell? ⟨wr.heap.size,0,none⟩=some (.int .i64 5)/\a.cell? ⟨wr.heap.size,1,none⟩=some (.int .i64 h)/\a.cell? ⟨wr.heap.size,2,none⟩=some (.int .i64 d)/\a.cell? ⟨wr.heap.size,3,none⟩=some (.string f)/\a.cell? ⟨w.heap.size,0,none⟩=some (.slice H n1 c1)/\a.cell? ⟨w.heap.size,1,none⟩=some (.slice (some ⟨g,o,none⟩) is.length c2)/\a.cell? ⟨w.heap.size,2,none⟩=some (.slice G F c3)/\a.cell? ⟨y.heap.size,5,none⟩=some (.func (.func 181) #[] #[])) (first | exact s | go_keep) (first
      | (go_at_call 181;refine (ZfT ⟨5,h,d,f⟩ _ _ _ _ _ _ _ _ _ _ _).mono ?_;rintro e P ⟨rfl,c⟩;have m:=ZaX D c;have s:=Zbw c q p 5 rfl rfl rfl rfl A C B r))
     all_goals
      generalize wayB ⟨5,h,d,f⟩ k is.length=b at j
      clear s A C B r J M K L
      cases b with
      | false =>
       have u:Hid (insB is 0 n1 is.length=false):=by unfold Hid;rw [j.out];rfl
       go_wp2
       go_ret
       exact ⟨by rw [E.out,u.out];rfl,m⟩
      | true =>
       go_wp2
       go_roundw
       case rel=>exact ⟨k+1,by omega,by go_num,(by unfold Hid;rw [j.out,Bool.true_and]),Zbb I c⟩
       case measure=>simp [intOf];omega
    ·have t:Hid (Zay ⟨6,h,d,f⟩ k n1 is.length=funB ⟨6,h,d,f⟩ k is.length):=by unfold Hid;simp [Zay]
     have r:wr.cell? ⟨y.heap.size,6,none⟩=some (.func (.func 182) #[] #[]):=by rw [cell_of_row wr _ 6 _ _ _ l];rfl
     rw [t.out] at j
     clear t l v
     go_wp2_with fail
     go_region_held (fun a=>a.cell? ⟨wr.heap.size,0,none⟩=some (.int .i64 6)/\a.cell? ⟨wr.heap.size,1,none⟩=some (.int .i64 h)/\a.cell? ⟨wr.heap.size,2,none⟩=some (.int .i64 d)/\a.cell? ⟨wr.heap.size,3,none⟩=some (.string f)/\a.cell? ⟨w.heap.size,0,none⟩=some (.slice H n1 c1)/\a.cell? ⟨w.heap.size,1,none⟩=some (.slice (some ⟨g,o,none⟩) is.length c2)/\a.cell? ⟨w.heap.size,2,none⟩=some (.slice G F c3)/\a.cell? ⟨y.heap.size,6,none⟩=some (.func (.func 182) #[] #[])) (first | exact s | go_keep) (first
      | (go_at_call 182;refine (Zi6 ⟨6,h,d,f⟩ _ _ _ _ _ _ _ _ _ _ _).mono ?_;rintro e P ⟨rfl,c⟩;have m:=ZaX D c;have s:=Zbw c q p 6 rfl rfl rfl rfl A C B r))
     all_goals
      generalize funB ⟨6,h,d,f⟩ k is.length=b at j
      clear s A C B r J M K L
      cases b with
      | false =>
       have u:Hid (insB is 0 n1 is.length=false):=by unfold Hid;rw [j.out];rfl
       go_wp2
       go_ret
       exact ⟨by rw [E.out,u.out];rfl,m⟩
      | true =>
       go_wp2
       go_roundw
       case rel=>exact ⟨k+1,by omega,by go_num,(by unfold Hid;rw [j.out,Bool.true_and]),Zbb I c⟩
       case measure=>simp [intOf];omega
    ·have t:Hid (Zay ⟨7,h,d,f⟩ k n1 is.length=ZcQ ⟨7,h,d,f⟩):=by unfold Hid;simp [Zay]
     have r:wr.cell? ⟨y.heap.size,7,none⟩=some (.func (.func 183) #[] #[]):=by rw [cell_of_row wr _ 7 _ _ _ l];rfl
     rw [t.out] at j
     clear t l v
     go_wp2_with fail
     go_region_held (fun a=>a.cell? ⟨wr.heap.size,0,none⟩=some (.int .i64 7)/\a.cell? ⟨wr.heap.size,1,none⟩=some (.int .i64 h)/\a.cell? ⟨wr.heap.size,2,none⟩=some (.int .i64 d)/\a.cell? ⟨wr.heap.size,3,none⟩=some (.string f)/\a.cell? ⟨w.heap.size,0,none⟩=some (.slice H n1 c1)/\a.cell? ⟨w.heap.size,1,none⟩=some (.slice (some ⟨g,o,none⟩) is.length c2)/\a.cell? ⟨w.heap.size,2,none⟩=some (.slice G F c3)/\a.cell? ⟨y.heap.size,7,none⟩=some (.func (.func 183) #[] #[])) (first | exact s | go_keep) (first
      | (go_at_call 183;refine (Zhs ⟨7,h,d,f⟩ _ _ _ _ _ _ _ _ _ _ _).mono ?_;rintro e P ⟨rfl,c⟩;have m:=ZaX D c;have s:=Zbw c q p 7 rfl rfl rfl rfl A C B r))
     all_goals
      generalize ZcQ ⟨7,h,d,f⟩=b at j
      clear s A C B r J M K L
      cases b with
      | false =>
       have u:Hid (insB is 0 n1 is.length=false):=by unfold Hid;rw [j.out];rfl
       go_wp2
       go_ret
       exact ⟨by rw [E.out,u.out];rfl,m⟩
      | true =>
       go_wp2
       go_roundw
       case rel=>exact ⟨k+1,by omega,by go_num,(by unfold Hid;rw [j.out,Bool.true_and]),Zbb I c⟩
       case measure=>simp [intOf];omega
    ·have t:Hid (Zay ⟨8,h,d,f⟩ k n1 is.length=Zb6 ⟨8,h,d,f⟩):=by unfold Hid;simp [Zay]
     have r:wr.cell? ⟨y.heap.size,8,none⟩=some (.func (.func 184) #[] #[]):=by rw [cell_of_row wr _ 8 _ _ _ l];rfl
     rw [t.out] at j
     clear t l v
     go_wp2_with fail
     go_region_held (fun a=>a.cell? ⟨wr.heap.size,0,none⟩=some (.int .i64 8)/\a.cell? ⟨wr.heap.size,1,none⟩=some (.int .i64 h)/\a.cell? ⟨wr.heap.size,2,none⟩=some (.int .i64 d)/\a.cell? ⟨wr.heap.size,3,none⟩=some (.string f)/\a.cell? ⟨w.heap.size,0,none⟩=some (.slice H n1 c1)/\a.cell? ⟨w.heap.size,1,none⟩=some (.slice (some ⟨g,o,none⟩) is.length c2)/\a.cell? ⟨w.heap.size,2,none⟩=some (.slice G F c3)/\a.cell? ⟨y.heap.size,8,none⟩=some (.func (.func 184) #[] #[])) (first | exact s | go_keep) (first
      | (go_at_call 184;refine (Zev ⟨8,h,d,f⟩ _ _ _ _ _ _ _ _ _ _ _).mono ?_;rintro e P ⟨rfl,c⟩;have m:=ZaX D c;have s:=Zbw c q p 8 rfl rfl rfl rfl A C B r))
     all_goals
      generalize Zb6 ⟨8,h,d,f⟩=b at j
      clear s A C B r J M K L
      cases b with
      | false =>
       have u:Hid (insB is 0 n1 is.length=false):=by unfold Hid;rw [j.out];rfl
       go_wp2
       go_ret
       exact ⟨by rw [E.out,u.out];rfl,m⟩
      | true =>
       go_wp2
       go_roundw
       case rel=>exact ⟨k+1,by omega,by go_num,(by unfold Hid;rw [j.out,Bool.true_and]),Zbb I c⟩
       case measure=>simp [intOf];omega
    ·have t:Hid (Zay ⟨9,h,d,f⟩ k n1 is.length=Zb6 ⟨9,h,d,f⟩):=by unfold Hid;simp [Zay]
     have r:wr.cell? ⟨y.heap.size,9,none⟩=some (.func (.func 184) #[] #[]):=by rw [cell_of_row wr _ 9 _ _ _ l];rfl
     rw [t.out] at j
     clear t l v
     go_wp2_with fail
     go_region_held (fun a=>a.cell? ⟨wr.heap.size,0,none⟩=some (.int .i64 9)/\a.cell? ⟨wr.heap.size,1,none⟩=some (.int .i64 h)/\a.cell? ⟨wr.heap.size,2,none⟩=some (.int .i64 d)/\a.cell? ⟨wr.heap.size,3,none⟩=some (.string f)/\a.cell? ⟨w.heap.size,0,none⟩=some (.slice H n1 c1)/\a.cell? ⟨w.heap.size,1,none⟩=some (.slice (some ⟨g,o,none⟩) is.length c2)/\a.cell? ⟨w.heap.size,2,none⟩=some (.slice G F c3)/\a.cell? ⟨y.heap.size,9,none⟩=some (.func (.func 184) #[] #[])) (first | exact s | go_keep) (first
      | (go_at_call 184;refine (Zev ⟨9,h,d,f⟩ _ _ _ _ _ _ _ _ _ _ _).mono ?_;rintro e P ⟨rfl,c⟩;have m:=ZaX D c;have s:=Zbw c q p 9 rfl rfl rfl rfl A C B r))
     all_goals
      generalize Zb6 ⟨9,h,d,f⟩=b at j
      clear s A C B r J M K L
      cases b with
      | false =>
       have u:Hid (insB is 0 n1 is.length=false):=by unfold Hid;rw [j.out];rfl
       go_wp2
       go_ret
       exact ⟨by rw [E.out,u.out];rfl,m⟩
      | true =>
       go_wp2
       go_roundw
       case rel=>exact ⟨k+1,by omega,by go_num,(by unfold Hid;rw [j.out,Bool.true_and]),Zbb I c⟩
       case measure=>simp [intOf];omega
   ·have u:Hid (insB is 0 n1 is.length=true):=by unfold Hid;rw [HK.out,List.drop_eq_nil_of_le (by omega)];rfl
    clear HK z
    go_wp2
    go_ret
    exact ⟨by rw [E.out,u.out];rfl,D⟩
 ·have E:Hid (decide (is.length <= 400)=false):=by unfold Hid;simp [hl]
  go_enter Tryz.func124,Tryz.ntmps124
  go_wp2
  go_ret
  exact ⟨by rw [E.out];rfl,(Below.refl _ _).alloc (Nat.le_refl _) _⟩
end Go.Proofs.YtfeodlbpnghakaaGreatDoor
