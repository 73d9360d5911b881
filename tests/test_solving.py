"""Tests of rootladder.solving: points 6, 7 and 8 of the document."""

import unittest
from math import gcd, isqrt

from rootladder import solving
from rootladder.ladders import fractions, ladder
from rootladder.solving import least_less_one, least_one, ones, reach

# Numbers with the longest rounds, right beside squares, and both ends of the bound.
FAR = [421, 541, 661, 991, 1621, 9949, 9901, 65535, 65537, 76731, 94109, 95419, 99855, 99857, 99989, 99999, 100000]

# Least ones with a y up to this are sought again by trying each y.
TRIED = 3000


def is_root_number(number):
    return number > 1 and isqrt(number) ** 2 != number


ROOT_NUMBERS = [number for number in range(2, 1000) if is_root_number(number)]


def worth_of(number, pair):
    return pair[0] ** 2 - number * pair[1] ** 2


def product(number, one, other):
    return one[0] * other[0] + number * one[1] * other[1], one[0] * other[1] + one[1] * other[0]


def tried(number, worth, most):
    """The pair with this worth, x from 0 on, and the least y from 1 to most, or None."""
    for y in range(1, most + 1):
        square = worth + number * y * y
        if square >= 0 and isqrt(square) ** 2 == square:
            return isqrt(square), y
    return None


def all_tried(number, most):
    """For each worth whose square is less than number its least pair with y from 1 to most."""
    found = {}
    for y in range(1, most + 1):
        middle = isqrt(number * y * y)
        # The worth grows with x, so that only x near the middle comes into question.
        for x in range(max(0, middle - 3), middle + 5):
            worth = worth_of(number, (x, y))
            if worth ** 2 < number and worth != 0:
                found.setdefault(worth, (x, y))
    return found


def least_one_in_circles(number):
    """The least one by the old Indian way in circles, which knows nothing of ladders."""
    x = isqrt(number)
    x += number - x * x > (x + 1) ** 2 - number
    y, over, m = 1, x * x - number, x
    while over != 1:
        size = abs(over)
        # The m with x + y m divisible by over and m m nearest to number.
        rest = -m % size
        low = isqrt(number) - (isqrt(number) - rest) % size
        steps = [step for step in (low, low + size) if step > 0]
        m = min(steps, key=lambda step: abs(step * step - number))
        x, y = abs(x * m + number * y) // size, abs(x + y * m) // size
        over = (m * m - number) // over
    return x, y


def small_numbers():
    """Each number whose least one has a y that can be reached by trying, with that y."""
    found = [(number, least_one(number)[1]) for number in ROOT_NUMBERS + FAR]
    return [(number, y) for number, y in found if y <= TRIED]


class LeastOne(unittest.TestCase):
    def test_pairs_that_are_known(self):
        known = {
            2: (3, 2), 3: (2, 1), 5: (9, 4), 6: (5, 2), 7: (8, 3), 8: (3, 1), 10: (19, 6), 13: (649, 180),
            29: (9801, 1820), 46: (24335, 3588), 61: (1766319049, 226153980), 94: (2143295, 221064),
            109: (158070671986249, 15140424455100),
            991: (379516400906811930638014896080, 12055735790331359447442538767),
            99855: (316, 1), 99857: (199713, 632),
        }
        for number, wanted in known.items():
            with self.subTest(number=number):
                self.assertEqual(least_one(number), wanted)

    def test_worth_and_size(self):
        for number in ROOT_NUMBERS + FAR:
            pair = least_one(number)
            self.assertIs(type(pair), tuple)
            self.assertEqual([type(part) for part in pair], [int, int])
            self.assertEqual(worth_of(number, pair), 1)
            self.assertGreater(min(pair), 0)

    def test_no_lesser_y_is_found_by_trying(self):
        for number in ROOT_NUMBERS + FAR:
            with self.subTest(number=number):
                pair = least_one(number)
                self.assertEqual(tried(number, 1, min(pair[1], TRIED)), pair if pair[1] <= TRIED else None)

    def test_it_is_the_one_found_in_circles(self):
        for number in ROOT_NUMBERS + FAR + list(range(90001, 90200)):
            with self.subTest(number=number):
                self.assertEqual(least_one(number), least_one_in_circles(number))


class LeastLessOne(unittest.TestCase):
    def test_pairs_that_are_known(self):
        known = {
            2: (1, 1), 5: (2, 1), 10: (3, 1), 13: (18, 5), 17: (4, 1), 29: (70, 13), 41: (32, 5), 61: (29718, 3805),
            99857: (316, 1), 3: None, 6: None, 7: None, 34: None, 205: None, 221: None, 99855: None, 100000: None,
        }
        for number, wanted in known.items():
            with self.subTest(number=number):
                self.assertEqual(least_less_one(number), wanted)

    def test_there_is_one_just_where_the_round_is_odd(self):
        for number in ROOT_NUMBERS + FAR:
            with self.subTest(number=number):
                pair = least_less_one(number)
                self.assertEqual(pair is not None, len(ladder(number)[1]) % 2 == 1)
                if pair is not None:
                    self.assertIs(type(pair), tuple)
                    self.assertEqual([type(part) for part in pair], [int, int])
                    self.assertEqual(worth_of(number, pair), -1)
                    self.assertGreater(min(pair), 0)
                    self.assertEqual(product(number, pair, pair), least_one(number))

    def test_no_lesser_y_is_found_by_trying(self):
        for number in ROOT_NUMBERS + FAR:
            with self.subTest(number=number):
                pair = least_less_one(number)
                wanted = pair if pair is not None and pair[1] <= TRIED else None
                self.assertEqual(tried(number, -1, TRIED if wanted is None else wanted[1]), wanted)


class Ones(unittest.TestCase):
    def test_pairs_that_are_known(self):
        self.assertEqual(ones(2), [(3, 2), (17, 12), (99, 70), (577, 408), (3363, 2378)])
        self.assertEqual(ones(3, 3), [(2, 1), (7, 4), (26, 15)])
        self.assertEqual(ones(7, 2), [(8, 3), (127, 48)])

    def test_kinds_of_values(self):
        told = ones(7)
        self.assertIs(type(told), list)
        for pair in told:
            self.assertIs(type(pair), tuple)
            self.assertEqual([type(part) for part in pair], [int, int])

    def test_there_are_so_many(self):
        for number in (2, 3, 61, 95419, 99999, 100000):
            self.assertEqual(ones(number, 0), [])
            self.assertEqual(len(ones(number)), 5)
            all_told = ones(number, 20)
            self.assertEqual(len(all_told), 20)
            for many in range(21):
                self.assertEqual(ones(number, many), all_told[:many])

    def test_each_is_the_one_ahead_times_the_least_one(self):
        for number in ROOT_NUMBERS[::5] + FAR:
            told = ones(number, 20)
            self.assertEqual(told[0], least_one(number))
            for one, following in zip(told, told[1:]):
                self.assertEqual(following, product(number, one, told[0]))
                self.assertEqual(worth_of(number, following), 1)
                self.assertLess(one, following)
                self.assertLess(one[1], following[1])

    def test_none_is_left_out(self):
        for number in (2, 3, 5, 6, 7, 8, 10, 99, 120):
            found = [
                (isqrt(1 + number * y * y), y)
                for y in range(1, 20000) if isqrt(1 + number * y * y) ** 2 == 1 + number * y * y
            ]
            self.assertGreater(len(found), 2)
            self.assertEqual(ones(number, len(found)), found)


class Reach(unittest.TestCase):
    def test_pairs_that_are_known(self):
        known = [
            (2, 1, (3, 2)), (2, -1, (1, 1)), (3, 1, (2, 1)), (3, -1, None), (5, 2, None), (5, -2, None),
            (6, -2, (2, 1)), (6, 2, None), (7, 2, (3, 1)), (7, -2, None), (21, 4, (5, 1)), (19, 4, (340, 78)),
            (61, -1, (29718, 3805)), (61, 3, (8, 1)), (61, -3, (5639, 722)),
            (99999, -143, (316, 1)), (100000, -144, (316, 1)),
        ]
        for number, told, wanted in known:
            with self.subTest(number=number, told=told):
                self.assertEqual(reach(number, told), wanted)

    def test_every_worth_of_numbers_with_small_least_ones(self):
        # Of the pairs with one worth the least has no greater y than the least
        # one has, so many times as the root of the worth's size; one is added
        # for what the whole root leaves out.
        for number, y in small_numbers():
            whole = isqrt(number)
            found = all_tried(number, y * (isqrt(whole) + 1))
            for told in range(-whole, whole + 1):
                if told != 0:
                    self.assertEqual(reach(number, told), found.get(told), (number, told))

    def test_small_pairs_of_all_numbers(self):
        for number in FAR + list(range(1025, 1089)):
            found = all_tried(number, 200)
            whole = isqrt(number)
            for told in [*range(-10, 11), whole, whole - 1, -whole, 1 - whole, *found]:
                if told != 0:
                    pair = reach(number, told)
                    small = pair if pair is not None and pair[1] <= 200 else None
                    self.assertEqual(small, found.get(told), (number, told))

    def test_a_pair_is_a_multiple_of_a_fraction(self):
        for number, told in [(number, told) for number in FAR for told in (1, -1, 4, -4, 9, -9, 3, -3, 12, 18)]:
            pair = reach(number, told)
            if pair is not None:
                by = gcd(*pair)
                self.assertEqual(worth_of(number, pair), told)
                self.assertIs(type(pair), tuple)
                self.assertEqual([type(part) for part in pair], [int, int])
                self.assertGreater(pair[1], 0)
                if pair[1] < 10 ** 40:
                    self.assertIn((pair[0] // by, pair[1] // by), fractions(number, 200))

    def test_one_and_less_one(self):
        for number in ROOT_NUMBERS + FAR:
            self.assertEqual(reach(number, 1), least_one(number), number)
            self.assertEqual(reach(number, -1), least_less_one(number), number)

    def test_a_multiple_of_the_least_one_is_not_always_the_least(self):
        # 19 has worth 4 by twice the least one alone, 21 by (5, 1) ahead of it.
        turned = 0
        for number in ROOT_NUMBERS:
            for by in range(2, isqrt(isqrt(number)) + 1):
                multiple = tuple(by * part for part in least_one(number))
                told = reach(number, by * by)
                self.assertLessEqual(told[1], multiple[1])
                turned += told != multiple
        self.assertGreater(turned, 50)

    def test_both_ends_of_the_bound_are_answered(self):
        for number in ROOT_NUMBERS + FAR:
            for told in (isqrt(number), -isqrt(number)):
                pair = reach(number, told)
                if pair is not None:
                    self.assertEqual(worth_of(number, pair), told)


class Asking(unittest.TestCase):
    def test_the_arguments_names_and_defaults(self):
        self.assertEqual(least_one(number=7), (8, 3))
        self.assertEqual(least_less_one(number=2), (1, 1))
        self.assertEqual(ones(number=7, many=2), [(8, 3), (127, 48)])
        self.assertEqual(ones(number=7), ones(7, 5))
        self.assertEqual(reach(number=7, told=2), (3, 1))

    def test_a_changed_list_changes_nothing_asked_later(self):
        told = ones(7)
        kept = list(told)
        told[0] = None
        told.append(3)
        self.assertEqual(ones(7), kept)
        self.assertEqual(least_one(7), kept[0])
        self.assertEqual(reach(7, 1), kept[0])

    def test_asking_changes_nothing_told_before(self):
        told = ones(7, 2)
        ones(7, 20)
        reach(7, -2)
        self.assertEqual(told, [(8, 3), (127, 48)])

    def test_asking_again_tells_the_same(self):
        asked = [2, 61, 7, 2, 100000, 61]
        first = [(least_one(number), least_less_one(number), reach(number, -1)) for number in asked]
        again = [(least_one(number), least_less_one(number), reach(number, -1)) for number in asked]
        self.assertEqual(first, again)

    def test_functions_are_defined_in_the_file(self):
        for name in ("least_one", "least_less_one", "ones", "reach"):
            self.assertEqual(getattr(solving, name).__module__, "rootladder.solving")


if __name__ == "__main__":
    unittest.main()
